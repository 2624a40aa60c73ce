import Derived.Test.YtcmoehednkaehahGSQ
import Derived.Test.YtcmoehednkaehahGLS
import Derived.Test.YtcmoehednkaehahGSNc
namespace Go.Proofs.Ytcmoehednkaehah
open Go.ChangeShapes Go.WideShapes Go.ChangeAt Go.RowKit

set_option maxRecDepth 20000 in
set_option maxHeartbeats 8000000 in
theorem sq_work : SQp.2.2.1 := by
  intro w l pr U hU cp hn _ w1 hp1 hp3 hU0 hU1 _ _ Wn HP fb _ _ W2 _ gP gA gK gB gW gD gM _ W3 _ T vs W4 _ gE gT _ _ W5 _ u12 u75 u76 u77 u78 u79 u80 u81 u82 u83 u84 u85 u86 u87 hk hlt base d od _ _ _ _ _ _ _ _ _ u20 u88 u89 u90 u91 u92 _ _ _ _ _ _ _ _ _ _ _ _ _ _ _ _ _ _ _ _ _ _ _ _ _ _ _ _ _ _ _ _ _ _ _ _ _ _ _ _ _ _ _ _ _ _ _ _ _ _ _ _ _ _ _ _ _ _ _ _ _ _ _ _ _ _ _ _ _ _ _ _ _ _ _ _ _ _ _ _ _ _ _ _ _ _ _ _ _ _ _ _ _ _ _ _ _ _ _ _ _ _ _ _ _ _ _ _ _ _ _ _ _ _ _ _ _ _ _ _ _ _ _ _ _ _ _ _ _ _ _ _ _ _ _ _ _ _ _ _ _ _ _ _ _ _ _ _ _ _ _ _ _ _ _ _ _ _ _ _ _ _ _ _ _ _ _ _ _ _ _ _ _ _ _ _ _ _ _ _ _ _ _ _ _ _ _ _ _ _ _ _ _ _ _ _ _ _ _ _ _ _ _ _ _ _ _ _ _ u302 u303 u304 u305 u306 u307 u308 u309 u310 u311 u312 u313 u314 u315 u316 u317 u318 u319 u320 u321 u322 t cnt runs x D ht ra rc rn wo htU hti HT _ _ gk wr u14 u15 u16 u17 u18 u19 u93 u94 u95 u96 u97 u98 u99 u100 u101 u102 u103 u104 u105 u106 u107 u108 u109 u110 u111 u112 u113 u114 u115 u116 u117 u118 u119 u120 u121 u122 u123 u124 u125 u126 u127 u128 u129 u130 u131 u132 u133 u134 u135 u136 u137 u138 u139 u140 u141 u142 u143 u144 u145 u146 u147 u148 u149 u150 u151 u152 u153 u154 u155 u156 u157 u158 u159 u160 u161 u162 u163 u164 u165 u166 u167 u168 u169 u170 u171 u172 u173 u174 u175 u176 u177 u178 u179 u180 u181 u182 u183 u184 u185 u186 u187 u188 u189 u190 u191 u192 u193 u194 u195 u196 u197 u198 u199 u200 u201 u202 u203 u204 u205 u206 u207 u208 u209 u210 u211 u212 u213 u214 u215 u216 u217 u218 u219 u220 u221 u222 u223 u224 u225 u226 u227 u228 u229 u230 u231 u232 u233 u234 u235 u236 u237 u238 u239 u240 u241 u242 u243 u244 u245 u246 u247 u248 u249 u250 u251 u252 u253 u254 u255 u256 u257 u258 u259 u260 u261 u262 u263 u264 u265 u266 u267 u268 u269 u270 u271 u272 u273 u274 u275 u276 u277 u278 u279 u280 u281 u282 u283 u284 u285 u286 u287 u288 u289 u290 u291 u292 u293 u294 u295 u296 u297 u298 u299 u300 u301 _ _ _ x1 cnt1 D1 i HF0 b z e hil hii HA w6 hi0 _ w7 hse jb jo HV HD _ _ HX _ _ _ _ H1 racp h0 hnx hq hnxi nq w8 a rb ro HC _ _ hHeld _ _ ga w9 h9 h9o hd h1 h2 hb h3
  have hlen := (HV.out.2.1.acts _ (H1.out.2.1.mem HA.out.2.2.2.1)).1
  subst hb
  obtain ⟨ada, an⟩ := a
  dsimp only at hd h2 h3
  subst hd
  obtain ⟨h3, hz⟩ := h3
  have HZ0 : Hid (z = { x1 with es := x1.es.set i { e with bg := true, rn := e.rn + 1 } }) := hz
  have HO : Hid ((Value.slice ra rn rc).ownBlock ≠ some ga) := h9o
  clear hz h9o
  obtain ⟨n0, n1, n2, n3, n4, n5, n6, n7, n8⟩ := h9.dw.v.own
  obtain ⟨o0, o1, o2, o3⟩ := h9.dw.out
  obtain ⟨lS, lP, lA, lK, lB, lW, lD, lM⟩ := h9.dw.v.lts
  obtain ⟨lO, lE, lT⟩ := h9.dw.lts
  obtain ⟨fA', fK', fB', fW', fD', fO', fE', fT'⟩ := h9.dw.frz
  have fA := fA' i
  have fK := fK' i
  have fW := fW' i
  have fD := fD' i
  have fE := fE' i
  clear fA' fK' fB' fW' fD' fO' fE' fT'
  have gnA : ¬ (ga = d.A) := by have h1 := h9.gb; have h2 := (h9.dw.lo d.A (by simp [blks])).2; omega
  have ngA : ¬ (d.A = ga) := fun h => gnA h.symm
  have gnK : ¬ (ga = d.K) := by have h1 := h9.gb; have h2 := (h9.dw.lo d.K (by simp [blks])).2; omega
  have ngK : ¬ (d.K = ga) := fun h => gnK h.symm
  have gnW : ¬ (ga = d.W) := by have h1 := h9.gb; have h2 := (h9.dw.lo d.W (by simp [blks])).2; omega
  have ngW : ¬ (d.W = ga) := fun h => gnW h.symm
  have gnD : ¬ (ga = d.D) := by have h1 := h9.gb; have h2 := (h9.dw.lo d.D (by simp [blks])).2; omega
  have ngD : ¬ (d.D = ga) := fun h => gnD h.symm
  have gnE : ¬ (ga = od.E) := by have h1 := h9.gb; have h2 := (h9.dw.lo od.E (by simp [blks])).2; omega
  have ngE : ¬ (od.E = ga) := fun h => gnE h.symm
  have gnO : ¬ (ga = od.O) := by have h1 := h9.gb; have h2 := (h9.dw.lo od.O (by simp [blks])).2; omega
  have ngO : ¬ (od.O = ga) := fun h => gnO h.symm
  obtain ⟨g0, g1, gl⟩ := h9.act
  obtain ⟨kA, kK, kB, kW⟩ := h9.dw.v.ent hse
  obtain ⟨⟨ad', cp', e', -, -, hrw⟩, hra⟩ := h9.dw.v.job
  cases e'
  have hy := H1.out.2.1.job HA.out.2.2.2.1
  rcases hrw with hx | ⟨jb', jo', e', hrow⟩
  · rw [hx] at hy; simp at hy
  cases e'
  obtain ⟨j0, j1, j2⟩ := lj_at hrow hy
  have hac := hra _ (List.mem_of_getElem? hy)
  obtain ⟨rad2, racp2, hrv⟩ := hac.len
  rw [hrv] at j2
  have jl : jb < _ := World.block_lt_of_cell? _ _ j0
  clear hra hrow hac hrv hy
  have H9 : Hid (DA Wn w9 d od base pr (.slice (some ⟨jb, jo, none⟩) l.length cp) l (.slice ra rn rc) runs { x1 with es := x1.es.set i (begF e) } cnt1 D1 ga ⟨1, an⟩) := h9
  unfold sl0 at *
  dsimp only [begF] at kA kK
  have hwr : (e.rn : Int) ≤ 1000 := by omega
  have H3 : Hid (e.rn + 1 < an) := h3
  clear h9 h3
  go_quiet (fail)
  go_wp2_with (at_builtin; refine append_push (H9.out.grow below_drewN').dw (i : Int) (by rw [HT.out.1]; omega) rfl (.tmp 167) (.tmp 169) rfl rfl rfl rfl ?_; intro aa7 nn7 cc7 w4 q2 q3 q4 q5 q6 q7; obtain ⟨v0, v1, v2, v3, v4, v5, v6, v7, v8⟩ := q5.own; obtain ⟨vA, vK, vB, vW⟩ := q5.ent hse; dsimp only [begF] at vK; have vf := (cells_of q5.hK).2.1 i; have vl := q5.lts.2.2.2.1; have vlS := q5.lts.1; have neKO : ¬ (d.K = od.O) := ndx H9.out.dw.nd (i := 3) (j := 8) (by decide) rfl rfl; have neOK : ¬ (od.O = d.K) := fun h => neKO h.symm; have neSO : ¬ (d.S = od.O) := ndx H9.out.dw.nd (i := 0) (j := 8) (by decide) rfl rfl; have neOS : ¬ (od.O = d.S) := fun h => neSO h.symm; unfold sl0 at *; have H7 : Hid (DW Wn (w4.setCell ⟨od.O, 0, none⟩ (.slice aa7 nn7 cc7)) d od base pr (.slice (some ⟨jb, jo, none⟩) l.length cp) l (.slice aa7 nn7 cc7) (runs ++ [(i : Int)]) { x1 with es := x1.es.set i (begF e) } cnt1 D1 ∧ (w4.setCell ⟨od.O, 0, none⟩ (.slice aa7 nn7 cc7)).heap[ga]? = some (.cells #[.int .i64 1, .int .i64 an] 61 (0, 0))) := ⟨q7, (q6 ga (H9.out.grow below_drewN').act.2.2 HO.out gnO).trans (H9.out.grow below_drewN').ab⟩; clear q5 q6 q7)
  refine wp_world (fun w' => DA Wn w' d od base pr (.slice (some ⟨jb, jo, none⟩) l.length cp) l (.slice aa7 nn7 cc7) (runs ++ [(i : Int)]) { x1 with es := x1.es.set i { e with bg := true, rn := e.rn + 1 } } cnt1 D1 ga ⟨1, an⟩) ?_ (fun w10 h10 => ?_)
  · refine ⟨?_, (Below.heap_setCell _ _ _ _ gnK).trans H7.out.2, H9.out.gb⟩
    have q := H7.out.1.setK hse (e.rn + 1)
    dsimp only at q
    rw [List.set_set] at q
    exact q
  clear v0 v1 v2 v3 v4 v5 v6 v7 v8 vA vK vB vW vf vl vlS neKO neOK neSO neOS q2 q3 q4 H7
  clear n0 n1 n2 n3 n4 n5 n6 n7 n8 o0 o1 o2 o3 lS lP lA lK lB lW lD lM lO lE lT fA fK fW fD fE
  clear g0 g1 gl kA kK kB kW j0 j1 j2 jl gnA ngA gnK ngK gnW ngW gnD ngD gnE ngE gnO ngO
  clear H9 hse
  have hse : (x1.es.set i { e with bg := true, rn := e.rn + 1 })[i]? = some { e with bg := true, rn := e.rn + 1 } := List.getElem?_set_self (by rw [H1.out.2.1.len]; exact hil)
  obtain ⟨n0, n1, n2, n3, n4, n5, n6, n7, n8⟩ := h10.dw.v.own
  obtain ⟨o0, o1, o2, o3⟩ := h10.dw.out
  obtain ⟨lS, lP, lA, lK, lB, lW, lD, lM⟩ := h10.dw.v.lts
  obtain ⟨lO, lE, lT⟩ := h10.dw.lts
  obtain ⟨fA', fK', fB', fW', fD', fO', fE', fT'⟩ := h10.dw.frz
  have fA := fA' i
  have fK := fK' i
  have fW := fW' i
  have fD := fD' i
  have fE := fE' i
  clear fA' fK' fB' fW' fD' fO' fE' fT'
  have gnA : ¬ (ga = d.A) := by have h1 := h10.gb; have h2 := (h10.dw.lo d.A (by simp [blks])).2; omega
  have ngA : ¬ (d.A = ga) := fun h => gnA h.symm
  have gnK : ¬ (ga = d.K) := by have h1 := h10.gb; have h2 := (h10.dw.lo d.K (by simp [blks])).2; omega
  have ngK : ¬ (d.K = ga) := fun h => gnK h.symm
  have gnW : ¬ (ga = d.W) := by have h1 := h10.gb; have h2 := (h10.dw.lo d.W (by simp [blks])).2; omega
  have ngW : ¬ (d.W = ga) := fun h => gnW h.symm
  have gnD : ¬ (ga = d.D) := by have h1 := h10.gb; have h2 := (h10.dw.lo d.D (by simp [blks])).2; omega
  have ngD : ¬ (d.D = ga) := fun h => gnD h.symm
  have gnE : ¬ (ga = od.E) := by have h1 := h10.gb; have h2 := (h10.dw.lo od.E (by simp [blks])).2; omega
  have ngE : ¬ (od.E = ga) := fun h => gnE h.symm
  have gnO : ¬ (ga = od.O) := by have h1 := h10.gb; have h2 := (h10.dw.lo od.O (by simp [blks])).2; omega
  have ngO : ¬ (od.O = ga) := fun h => gnO h.symm
  obtain ⟨g0, g1, gl⟩ := h10.act
  obtain ⟨kA, kK, kB, kW⟩ := h10.dw.v.ent hse
  obtain ⟨⟨ad', cp', e', -, -, hrw⟩, hra⟩ := h10.dw.v.job
  cases e'
  have hy := H1.out.2.1.job HA.out.2.2.2.1
  rcases hrw with hx | ⟨jb', jo', e', hrow⟩
  · rw [hx] at hy; simp at hy
  cases e'
  obtain ⟨j0, j1, j2⟩ := lj_at hrow hy
  have hac := hra _ (List.mem_of_getElem? hy)
  obtain ⟨rad2, racp2, hrv⟩ := hac.len
  rw [hrv] at j2
  have jl : jb < _ := World.block_lt_of_cell? _ _ j0
  clear hra hrow hac hrv hy
  have H10 : Hid (DA Wn w10 d od base pr (.slice (some ⟨jb, jo, none⟩) l.length cp) l (.slice aa7 nn7 cc7) (runs ++ [(i : Int)]) { x1 with es := x1.es.set i { e with bg := true, rn := e.rn + 1 } } cnt1 D1 ga ⟨1, an⟩) := h10
  unfold sl0 at *
  clear h10
  have hne : (e.rn + 1 == an) = false := by have := H3.out; simp; omega
  go_quiet (fail)
  go_wp2_with fail
  refine wp_world (fun w' => DW Wn w' d od base pr (.slice (some ⟨jb, jo, none⟩) l.length cp) l (.slice aa7 nn7 cc7) (runs ++ [(i : Int)]) z cnt1 D1) (by rw [HZ0.out]; exact (H10.out.grow below_drewN').dw) (fun w11 h11 => ?_)
  clear n0 n1 n2 n3 n4 n5 n6 n7 n8 o0 o1 o2 o3 lS lP lA lK lB lW lD lM lO lE lT fA fK fW fD fE
  clear g0 g1 gl kA kK kB kW j0 j1 j2 jl gnA ngA gnK ngK gnW ngW gnD ngD gnE ngE gnO ngO
  clear H10 HZ0
  obtain ⟨f7, hf7⟩ : ∃ f7 : Int, f7 = (i : Int) := ⟨_, rfl⟩
  obtain ⟨cz, hcz⟩ : ∃ cz, cz = cnt1 := ⟨_, rfl⟩
  obtain ⟨Dz, hDz⟩ : ∃ Dz, Dz = D1 := ⟨_, rfl⟩
  have HZ : Hid (DW Wn w11 d od base pr (.slice (some ⟨jb, jo, none⟩) l.length cp) l (.slice aa7 nn7 cc7) (runs ++ [f7]) z cz Dz ∧ GI l t z ∧ Beg pr (topsF l) l.length t x f7 z ∧ cz + mu2 l.length z ≤ 10000000) := by
    subst hf7 hcz hDz
    have hle := act_true_le (n := l.length) (show (0 : Int) ≤ (t : Int) by omega) HA.out.1
    refine ⟨h11, HA.out.2.1, H1.out.2.2.2.2 _ _ (.work HF0.out.1 HA.out.1), ?_⟩
    have := H1.out.2.2.2.1
    omega
  clear h11 hf7 hcz hDz
  obtain ⟨y0, y1, y2, y3, y4, y5, y6, y7, y8⟩ := HZ.out.1.v.own
  unfold sl0 at *
  go_loopw [304] (fun i wl => ∃ k : Nat, k ≤ l.length ∧ i = .int .i64 k ∧ DW Wn wl d od base pr (.slice (some ⟨jb, jo, none⟩) l.length cp) l (.slice aa7 nn7 cc7) (runs ++ [f7]) { z with ws := bumpF (z.es.take k) z.ws } cz Dz) (fun i _ => l.length - (intOf i).toNat)
  case atStart => exact ⟨0, Nat.zero_le _, rfl, HZ.out.1⟩
  case round =>
    obtain ⟨k, hk, rfl, hdw⟩ := hrel
    by_cases hlt : k < l.length
    · obtain ⟨ek, hek⟩ := at_lt HZ.out.2.1.len hlt
      obtain ⟨wk, hwk⟩ := at_lt HZ.out.2.1.nw hlt
      obtain ⟨-, -, -, kW⟩ := hdw.v.ent (show ({ z with ws := bumpF (z.es.take k) z.ws } : Rs).es[k]? = some ek from hek)
      obtain ⟨b1, b2⟩ := bumpF_at z.es z.ws k ek wk hek hwk
      have kT := hdw.waits (show ({ z with ws := bumpF (z.es.take k) z.ws } : Rs).ws[k]? = some wk from b1)
      have hwb := HZ.out.2.1.ws wk (List.mem_of_getElem? hwk)
      obtain ⟨-, -, -, -, -, -, p6, -, -⟩ := hdw.v.own
      obtain ⟨-, -, o2, -⟩ := hdw.out
      have fT := hdw.frz.2.2.2.2.2.2.2 k
      have hki : (k : Int) < (l.length : Int) := by omega
      unfold sl0 at *
      by_cases hw : ek.wt = -1
      · rw [if_pos hw, set_same b1] at b2
        rw [hw] at kW
        have HN : Hid (DW Wn wr d od base pr (.slice (some ⟨jb, jo, none⟩) l.length cp) l (.slice aa7 nn7 cc7) (runs ++ [f7]) { z with ws := bumpF (z.es.take (k + 1)) z.ws } cz Dz) := by rw [← b2]; exact hdw
        clear hdw hek hwk b1 b2 hw
        go_wp2_with fail
        exact ⟨⟨k + 1, by omega, by simp, HN.out⟩, by simp [intOf]; omega⟩
      · rw [if_neg hw] at b2
        have hw0 : 0 ≤ ek.wt := by
          rcases HZ.out.2.1.wt k ek hek with h | ⟨m, h, h1, h2, h3⟩
          · exact absurd h hw
          · omega
        have HN : Hid (DW Wn (wr.setCell ⟨od.T, k, none⟩ (.int .i64 (wk + 1))) d od base pr (.slice (some ⟨jb, jo, none⟩) l.length cp) l (.slice aa7 nn7 cc7) (runs ++ [f7]) { z with ws := bumpF (z.es.take (k + 1)) z.ws } cz Dz) := by rw [← b2]; exact hdw.setT k (wk + 1)
        clear hdw hek hwk b1 b2 hw
        go_wp2_with fail
        exact ⟨⟨k + 1, by omega, by simp, HN.out⟩, by simp [intOf]; omega⟩
    · have hke : k = l.length := by omega
      subst hke
      have HN : Hid (DW Wn wr d od base pr (.slice (some ⟨jb, jo, none⟩) l.length cp) l (.slice aa7 nn7 cc7) (runs ++ [f7]) { z with ws := bumpF z.es z.ws } cz Dz) := by
        have e9 : z.es.take l.length = z.es := by rw [← HZ.out.2.1.len, List.take_length]
        rw [e9] at hdw
        exact hdw
      clear hdw
      go_wp2_with fail
      exact ⟨⟨t + 1, cz, runs ++ [f7], _, _, Dz, by omega, by simp, by rw [List.length_append, HT.out.1]; rfl, HN.out, HZ.out.2.1.tick, Rn.more HT.out.2 HZ.out.2.2.1, HZ.out.2.2.2⟩, by simp [intOf]; omega⟩
end Go.Proofs.Ytcmoehednkaehah
