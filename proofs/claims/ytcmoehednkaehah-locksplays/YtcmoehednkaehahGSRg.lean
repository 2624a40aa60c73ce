import Derived.Test.YtcmoehednkaehahGSQ
import Derived.Test.YtcmoehednkaehahGLS
import Derived.Test.YtcmoehednkaehahGSNd
namespace Go.Proofs.Ytcmoehednkaehah
open Go.ChangeShapes Go.WideShapes Go.ChangeAt Go.RowKit

set_option maxRecDepth 20000 in
set_option maxHeartbeats 8000000 in
theorem sq_give : SQp.2.2.2.2.2.1 := by
  intro w l pr U hU cp hn _ w1 hp1 hp3 hU0 hU1 _ _ Wn HP fb _ _ W2 _ gP gA gK gB gW gD gM _ W3 _ T vs W4 _ gE gT _ _ W5 _ u12 u75 u76 u77 u78 u79 u80 u81 u82 u83 u84 u85 u86 u87 hk hlt base d od _ _ _ _ _ _ _ _ _ u20 u88 u89 u90 u91 u92 _ _ _ _ _ _ _ _ _ _ _ _ _ _ _ _ _ _ _ _ _ _ _ _ _ _ _ _ _ _ _ _ _ _ _ _ _ _ _ _ _ _ _ _ _ _ _ _ _ _ _ _ _ _ _ _ _ _ _ _ _ _ _ _ _ _ _ _ _ _ _ _ _ _ _ _ _ _ _ _ _ _ _ _ _ _ _ _ _ _ _ _ _ _ _ _ _ _ _ _ _ _ _ _ _ _ _ _ _ _ _ _ _ _ _ _ _ _ _ _ _ _ _ _ _ _ _ _ _ _ _ _ _ _ _ _ _ _ _ _ _ _ _ _ _ _ _ _ _ _ _ _ _ _ _ _ _ _ _ _ _ _ _ _ _ _ _ _ _ _ _ _ _ _ _ _ _ _ _ _ _ _ _ _ _ _ _ _ _ _ _ _ _ _ _ _ _ _ _ _ _ _ _ _ _ _ _ _ _ u302 u303 u304 u305 u306 u307 u308 u309 u310 u311 u312 u313 u314 u315 u316 u317 u318 u319 u320 u321 u322 t cnt runs x D ht ra rc rn wo htU hti HT _ _ gk wr u14 u15 u16 u17 u18 u19 u93 u94 u95 u96 u97 u98 u99 u100 u101 u102 u103 u104 u105 u106 u107 u108 u109 u110 u111 u112 u113 u114 u115 u116 u117 u118 u119 u120 u121 u122 u123 u124 u125 u126 u127 u128 u129 u130 u131 u132 u133 u134 u135 u136 u137 u138 u139 u140 u141 u142 u143 u144 u145 u146 u147 u148 u149 u150 u151 u152 u153 u154 u155 u156 u157 u158 u159 u160 u161 u162 u163 u164 u165 u166 u167 u168 u169 u170 u171 u172 u173 u174 u175 u176 u177 u178 u179 u180 u181 u182 u183 u184 u185 u186 u187 u188 u189 u190 u191 u192 u193 u194 u195 u196 u197 u198 u199 u200 u201 u202 u203 u204 u205 u206 u207 u208 u209 u210 u211 u212 u213 u214 u215 u216 u217 u218 u219 u220 u221 u222 u223 u224 u225 u226 u227 u228 u229 u230 u231 u232 u233 u234 u235 u236 u237 u238 u239 u240 u241 u242 u243 u244 u245 u246 u247 u248 u249 u250 u251 u252 u253 u254 u255 u256 u257 u258 u259 u260 u261 u262 u263 u264 u265 u266 u267 u268 u269 u270 u271 u272 u273 u274 u275 u276 u277 u278 u279 u280 u281 u282 u283 u284 u285 u286 u287 u288 u289 u290 u291 u292 u293 u294 u295 u296 u297 u298 u299 u300 u301 _ _ _ x1 cnt1 D1 i HF0 b z e hil hii HA w6 hi0 _ w7 hse jb jo HV HD _ _ HX _ _ _ _ H1 racp h0 hnx hq hnxi nq w8 a rb ro HC _ _ hHeld _ _ ga w9 h9 h9o m hm hm4 hb hd h3
  have hlen := (HV.out.2.1.acts _ (H1.out.2.1.mem HA.out.2.2.2.1)).1
  subst hb
  obtain ⟨ada, an⟩ := a
  dsimp only at hd hm
  subst hd hm
  have hz := h3
  obtain ⟨q, hq1⟩ : ∃ q, x1.hs[m]? = some q := ⟨_, List.getElem?_eq_getElem (by rw [H1.out.2.1.nh]; exact hm4)⟩
  clear h3
  obtain ⟨n0, n1, n2, n3, n4, n5, n6, n7, n8⟩ := h9.dw.v.own
  obtain ⟨o0, o1, o2, o3⟩ := h9.dw.out
  obtain ⟨lS, lP, lA, lK, lB, lW, lD, lM⟩ := h9.dw.v.lts
  obtain ⟨lO, lE, lT⟩ := h9.dw.lts
  obtain ⟨fA', fK', fB', fW', fD', fO', fE', fT'⟩ := h9.dw.frz
  have fA := fA' i
  have fK := fK' i
  have fW := fW' i
  have fD := fD' i
  have fE := fE' i
  clear fA' fK' fB' fW' fD' fO' fE' fT'
  have gnA : ¬ (ga = d.A) := by have h1 := h9.gb; have h2 := (h9.dw.lo d.A (by simp [blks])).2; omega
  have ngA : ¬ (d.A = ga) := fun h => gnA h.symm
  have gnK : ¬ (ga = d.K) := by have h1 := h9.gb; have h2 := (h9.dw.lo d.K (by simp [blks])).2; omega
  have ngK : ¬ (d.K = ga) := fun h => gnK h.symm
  have gnW : ¬ (ga = d.W) := by have h1 := h9.gb; have h2 := (h9.dw.lo d.W (by simp [blks])).2; omega
  have ngW : ¬ (d.W = ga) := fun h => gnW h.symm
  have gnD : ¬ (ga = d.D) := by have h1 := h9.gb; have h2 := (h9.dw.lo d.D (by simp [blks])).2; omega
  have ngD : ¬ (d.D = ga) := fun h => gnD h.symm
  have gnE : ¬ (ga = od.E) := by have h1 := h9.gb; have h2 := (h9.dw.lo od.E (by simp [blks])).2; omega
  have ngE : ¬ (od.E = ga) := fun h => gnE h.symm
  have gnO : ¬ (ga = od.O) := by have h1 := h9.gb; have h2 := (h9.dw.lo od.O (by simp [blks])).2; omega
  have ngO : ¬ (od.O = ga) := fun h => gnO h.symm
  obtain ⟨g0, g1, gl⟩ := h9.act
  obtain ⟨kA, kK, kB, kW⟩ := h9.dw.v.ent hse
  obtain ⟨⟨ad', cp', e', -, -, hrw⟩, hra⟩ := h9.dw.v.job
  cases e'
  have hy := H1.out.2.1.job HA.out.2.2.2.1
  rcases hrw with hx | ⟨jb', jo', e', hrow⟩
  · rw [hx] at hy; simp at hy
  cases e'
  obtain ⟨j0, j1, j2⟩ := lj_at hrow hy
  have hac := hra _ (List.mem_of_getElem? hy)
  obtain ⟨rad2, racp2, hrv⟩ := hac.len
  rw [hrv] at j2
  have jl : jb < _ := World.block_lt_of_cell? _ _ j0
  clear hra hrow hac hrv hy
  have H9 : Hid (DA Wn w9 d od base pr (.slice (some ⟨jb, jo, none⟩) l.length cp) l (.slice ra rn rc) runs { x1 with es := x1.es.set i (begF e) } cnt1 D1 ga ⟨3, (m : Int)⟩) := h9
  unfold sl0 at *
  dsimp only [begF] at kA
  clear h9
  go_quiet (fail)
  go_wp2_with fail
  refine wp_world (fun w' => DA Wn w' d od base pr (.slice (some ⟨jb, jo, none⟩) l.length cp) l (.slice ra rn rc) runs { x1 with es := x1.es.set i (begF e) } cnt1 D1 ga ⟨3, (m : Int)⟩) (H9.out.grow below_drewN') (fun w10 h10 => ?_)
  clear n0 n1 n2 n3 n4 n5 n6 n7 n8 o0 o1 o2 o3 lS lP lA lK lB lW lD lM lO lE lT fA fK fW fD fE
  clear g0 g1 gl kA kK kB kW j0 j1 j2 jl gnA ngA gnK ngK gnW ngW gnD ngD gnE ngE gnO ngO
  clear H9
  obtain ⟨n0, n1, n2, n3, n4, n5, n6, n7, n8⟩ := h10.dw.v.own
  obtain ⟨o0, o1, o2, o3⟩ := h10.dw.out
  obtain ⟨lS, lP, lA, lK, lB, lW, lD, lM⟩ := h10.dw.v.lts
  obtain ⟨lO, lE, lT⟩ := h10.dw.lts
  obtain ⟨fA', fK', fB', fW', fD', fO', fE', fT'⟩ := h10.dw.frz
  have fA := fA' i
  have fK := fK' i
  have fW := fW' i
  have fD := fD' i
  have fE := fE' i
  clear fA' fK' fB' fW' fD' fO' fE' fT'
  have gnA : ¬ (ga = d.A) := by have h1 := h10.gb; have h2 := (h10.dw.lo d.A (by simp [blks])).2; omega
  have ngA : ¬ (d.A = ga) := fun h => gnA h.symm
  have gnK : ¬ (ga = d.K) := by have h1 := h10.gb; have h2 := (h10.dw.lo d.K (by simp [blks])).2; omega
  have ngK : ¬ (d.K = ga) := fun h => gnK h.symm
  have gnW : ¬ (ga = d.W) := by have h1 := h10.gb; have h2 := (h10.dw.lo d.W (by simp [blks])).2; omega
  have ngW : ¬ (d.W = ga) := fun h => gnW h.symm
  have gnD : ¬ (ga = d.D) := by have h1 := h10.gb; have h2 := (h10.dw.lo d.D (by simp [blks])).2; omega
  have ngD : ¬ (d.D = ga) := fun h => gnD h.symm
  have gnE : ¬ (ga = od.E) := by have h1 := h10.gb; have h2 := (h10.dw.lo od.E (by simp [blks])).2; omega
  have ngE : ¬ (od.E = ga) := fun h => gnE h.symm
  have gnO : ¬ (ga = od.O) := by have h1 := h10.gb; have h2 := (h10.dw.lo od.O (by simp [blks])).2; omega
  have ngO : ¬ (od.O = ga) := fun h => gnO h.symm
  obtain ⟨g0, g1, gl⟩ := h10.act
  obtain ⟨kA, kK, kB, kW⟩ := h10.dw.v.ent hse
  obtain ⟨⟨ad', cp', e', -, -, hrw⟩, hra⟩ := h10.dw.v.job
  cases e'
  have hy := H1.out.2.1.job HA.out.2.2.2.1
  rcases hrw with hx | ⟨jb', jo', e', hrow⟩
  · rw [hx] at hy; simp at hy
  cases e'
  obtain ⟨j0, j1, j2⟩ := lj_at hrow hy
  have hac := hra _ (List.mem_of_getElem? hy)
  obtain ⟨rad2, racp2, hrv⟩ := hac.len
  rw [hrv] at j2
  have jl : jb < _ := World.block_lt_of_cell? _ _ j0
  clear hra hrow hac hrv hy
  have H10 : Hid (DA Wn w10 d od base pr (.slice (some ⟨jb, jo, none⟩) l.length cp) l (.slice ra rn rc) runs { x1 with es := x1.es.set i (begF e) } cnt1 D1 ga ⟨3, (m : Int)⟩) := h10
  obtain ⟨lkv, hlk⟩ := look_run (h10.grow (Below.refl _ w10).drew).dw.v.map h10.dw.v.spec hm4 (show ({ x1 with es := x1.es.set i (begF e) } : Rs).hs[m]? = some q from hq1)
  unfold sl0 at *
  dsimp only [begF] at kA
  clear h10
  generalize (q != (-1 : Int)) = qb at hlk
  refine wp_region_noPanic ?_
  refine wp_region_held_drew (S := fun w' => w'.cell? ⟨d.S, 8, none⟩ = some (.map (some d.M)) ∧ w'.cell? ⟨ga, 1, none⟩ = some (.int .i64 (m : Int)) ∧ (Instr.lookup 56 (.map (some d.M)) (.int .i64 (m : Int)) true).run Try.prog w' = .ok (.tuple #[.int .i64 lkv, .bool qb]) w') (by kernel_rfl) (⟨n8, g1, hlk⟩) (fun hHeld => ?_)
  refine take_at (i := 0) (n := 220) (v := ?_) rfl rfl (by kernel_rfl) (by kernel_rfl) (by kernel_rfl) (fun _ _ _ h => h) (Or.inl ⟨by rfl, ?_⟩) (by assumption) ?_
  rotate_left 1
  · intro wz hSw
    obtain ⟨s0, s1, s2⟩ := hSw
    first | (go_simp; done) | (go_simp; with_reducible rfl)
  simp only [List.set_cons_zero, List.set_cons_succ]
  refine take_at (i := 1) (n := 221) (v := ?_) rfl rfl (by kernel_rfl) (by kernel_rfl) (by kernel_rfl) (fun _ _ _ h => h) (Or.inl ⟨by rfl, ?_⟩) (by assumption) ?_
  rotate_left 1
  · intro wz hSw
    obtain ⟨s0, s1, s2⟩ := hSw
    first | (go_simp; done) | (go_simp; with_reducible rfl)
  simp only [List.set_cons_zero, List.set_cons_succ]
  refine take_at (i := 2) (n := 222) (v := ?_) rfl rfl (by kernel_rfl) (by kernel_rfl) (by kernel_rfl) (fun _ _ _ h => h) (Or.inl ⟨by rfl, ?_⟩) (by assumption) ?_
  rotate_left 1
  · intro wz hSw
    obtain ⟨s0, s1, s2⟩ := hSw
    first | (go_simp; done) | (go_simp; with_reducible rfl)
  simp only [List.set_cons_zero, List.set_cons_succ]
  refine take_at (i := 3) (n := 223) (v := ?_) rfl rfl (by kernel_rfl) (by kernel_rfl) (by kernel_rfl) (fun _ _ _ h => h) (Or.inl ⟨by rfl, ?_⟩) (by assumption) ?_
  rotate_left 1
  · intro wz hSw
    obtain ⟨s0, s1, s2⟩ := hSw
    first | (go_simp; done) | (go_simp; with_reducible rfl)
  simp only [List.set_cons_zero, List.set_cons_succ]
  refine take_at (i := 4) (n := 224) (v := ?_) rfl rfl (by kernel_rfl) (by kernel_rfl) (by kernel_rfl) (fun _ _ _ h => h) (Or.inl ⟨by rfl, ?_⟩) (by assumption) ?_
  rotate_left 1
  · intro wz hSw
    obtain ⟨s0, s1, s2⟩ := hSw
    first | (go_simp; done) | (go_simp; with_reducible rfl)
  simp only [List.set_cons_zero, List.set_cons_succ]
  refine take_at (i := 5) (n := 225) (v := ?_) rfl rfl (by kernel_rfl) (by kernel_rfl) (by kernel_rfl) (fun _ _ _ h => h) (Or.inl ⟨by rfl, ?_⟩) (by assumption) ?_
  rotate_left 1
  · intro wz hSw
    obtain ⟨s0, s1, s2⟩ := hSw
    first | (go_simp; done) | (go_simp; with_reducible rfl)
  simp only [List.set_cons_zero, List.set_cons_succ]
  refine take_at (i := 6) (n := 226) (v := ?_) rfl rfl (by kernel_rfl) (by kernel_rfl) (by kernel_rfl) (fun _ _ _ h => h) (Or.inl ⟨by rfl, ?_⟩) (by assumption) ?_
  rotate_left 1
  · intro wz hSw
    obtain ⟨s0, s1, s2⟩ := hSw
    first | (go_simp; done) | (go_simp; with_reducible rfl)
  simp only [List.set_cons_zero, List.set_cons_succ]
  refine take_at (i := 7) (n := 219) (v := ?_) rfl rfl (by kernel_rfl) (by kernel_rfl) (by kernel_rfl) (fun _ _ _ h => h) (Or.inl ⟨by rfl, ?_⟩) (by assumption) ?_
  rotate_left 1
  · intro wz hSw
    obtain ⟨s0, s1, s2⟩ := hSw
    first | (go_simp; done) | (go_simp; with_reducible rfl)
  simp only [List.set_cons_zero, List.set_cons_succ]
  refine take_at (i := 8) (n := 227) (v := ?_) rfl rfl (by kernel_rfl) (by kernel_rfl) (by kernel_rfl) (fun _ _ _ h => h) (Or.inl ⟨by rfl, ?_⟩) (by assumption) ?_
  rotate_left 1
  · intro wz hSw
    obtain ⟨s0, s1, s2⟩ := hSw
    first | (go_simp; done) | (go_simp; with_reducible rfl)
  simp only [List.set_cons_zero, List.set_cons_succ]
  refine take_at (i := 9) (n := 228) (v := ?_) rfl rfl (by kernel_rfl) (by kernel_rfl) (by kernel_rfl) (fun _ _ _ h => h) (Or.inl ⟨by rfl, ?_⟩) (by assumption) ?_
  rotate_left 1
  · intro wz hSw
    obtain ⟨s0, s1, s2⟩ := hSw
    first | (go_simp; done) | (go_simp; with_reducible rfl)
  simp only [List.set_cons_zero, List.set_cons_succ]
  refine take_at (i := 10) (n := 17) (v := ?_) rfl rfl (by kernel_rfl) (by kernel_rfl) (by kernel_rfl) (fun _ _ _ h => h) (Or.inl ⟨by rfl, ?_⟩) (by assumption) ?_
  rotate_left 1
  · intro wz hSw
    obtain ⟨s0, s1, s2⟩ := hSw
    first | (go_simp; done) | (go_simp; with_reducible rfl)
  simp only [List.set_cons_zero, List.set_cons_succ]
  refine take_at (i := 11) (n := 18) (v := ?_) rfl rfl (by kernel_rfl) (by kernel_rfl) (by kernel_rfl) (fun _ _ _ h => h) (Or.inl ⟨by rfl, ?_⟩) (by assumption) ?_
  rotate_left 1
  · intro wz hSw
    obtain ⟨s0, s1, s2⟩ := hSw
    first | (go_simp; done) | (go_simp; with_reducible rfl)
  simp only [List.set_cons_zero, List.set_cons_succ]
  refine wpAnyH_done (by kernel_rfl) ?_ _
  refine NoPanic.normal ?_
  have HA3 : Hid (∀ w', DA Wn w' d od base pr (.slice (some ⟨jb, jo, none⟩) l.length cp) l (.slice ra rn rc) runs { x1 with es := x1.es.set i (begF e) } cnt1 D1 ga ⟨3, (m : Int)⟩ → DA Wn (w'.setCell ⟨d.A, i, none⟩ (.int .i64 ((e.nx + 1 : Nat) : Int))) d od base pr (.slice (some ⟨jb, jo, none⟩) l.length cp) l (.slice ra rn rc) runs { x1 with es := x1.es.set i { e with bg := true, nx := e.nx + 1 } } cnt1 D1 ga ⟨3, (m : Int)⟩) := fun w' h => by
    have q := h.set (b := d.A) (by simp [blks]) (h.dw.setA hse (e.nx + 1))
    dsimp only at q
    rw [List.set_set] at q
    exact q
  by_cases hl : e.nx + 1 = e.x.acts.length
  · have hlb : ((e.nx : Int) + 1 == (e.x.acts.length : Int)) = true := by simp; omega
    go_wp2_with fail
    refine wp_world (fun w' => DA Wn w' d od base pr (.slice (some ⟨jb, jo, none⟩) l.length cp) l (.slice ra rn rc) runs { x1 with es := x1.es.set i { e with bg := true, nx := e.nx + 1 } } cnt1 D1 ga ⟨3, (m : Int)⟩) (by first | exact HA3.out _ H10.out | exact HA3.out _ (H10.out.grow (Below.refl _ _).drew) | exact (HA3.out _ H10.out).grow (Below.refl _ _).drew | exact HA3.out _ (H10.out.grow below_drewN')) (fun w11 h11 => ?_)
    clear n0 n1 n2 n3 n4 n5 n6 n7 n8 o0 o1 o2 o3 lS lP lA lK lB lW lD lM lO lE lT fA fK fW fD fE
    clear g0 g1 gl kA kK kB kW j0 j1 j2 jl gnA ngA gnK ngK gnW ngW gnD ngD gnE ngE gnO ngO
    clear H10 hlk HA3 hse
    have hse : (x1.es.set i { e with bg := true, nx := e.nx + 1 })[i]? = some { e with bg := true, nx := e.nx + 1 } := List.getElem?_set_self (by rw [H1.out.2.1.len]; exact hil)
    obtain ⟨n0, n1, n2, n3, n4, n5, n6, n7, n8⟩ := h11.dw.v.own
    obtain ⟨o0, o1, o2, o3⟩ := h11.dw.out
    obtain ⟨lS, lP, lA, lK, lB, lW, lD, lM⟩ := h11.dw.v.lts
    obtain ⟨lO, lE, lT⟩ := h11.dw.lts
    obtain ⟨fA', fK', fB', fW', fD', fO', fE', fT'⟩ := h11.dw.frz
    have fA := fA' i
    have fK := fK' i
    have fW := fW' i
    have fD := fD' i
    have fE := fE' i
    clear fA' fK' fB' fW' fD' fO' fE' fT'
    have gnA : ¬ (ga = d.A) := by have h1 := h11.gb; have h2 := (h11.dw.lo d.A (by simp [blks])).2; omega
    have ngA : ¬ (d.A = ga) := fun h => gnA h.symm
    have gnK : ¬ (ga = d.K) := by have h1 := h11.gb; have h2 := (h11.dw.lo d.K (by simp [blks])).2; omega
    have ngK : ¬ (d.K = ga) := fun h => gnK h.symm
    have gnW : ¬ (ga = d.W) := by have h1 := h11.gb; have h2 := (h11.dw.lo d.W (by simp [blks])).2; omega
    have ngW : ¬ (d.W = ga) := fun h => gnW h.symm
    have gnD : ¬ (ga = d.D) := by have h1 := h11.gb; have h2 := (h11.dw.lo d.D (by simp [blks])).2; omega
    have ngD : ¬ (d.D = ga) := fun h => gnD h.symm
    have gnE : ¬ (ga = od.E) := by have h1 := h11.gb; have h2 := (h11.dw.lo od.E (by simp [blks])).2; omega
    have ngE : ¬ (od.E = ga) := fun h => gnE h.symm
    have gnO : ¬ (ga = od.O) := by have h1 := h11.gb; have h2 := (h11.dw.lo od.O (by simp [blks])).2; omega
    have ngO : ¬ (od.O = ga) := fun h => gnO h.symm
    obtain ⟨g0, g1, gl⟩ := h11.act
    obtain ⟨kA, kK, kB, kW⟩ := h11.dw.v.ent hse
    obtain ⟨⟨ad', cp', e', -, -, hrw⟩, hra⟩ := h11.dw.v.job
    cases e'
    have hy := H1.out.2.1.job HA.out.2.2.2.1
    rcases hrw with hx | ⟨jb', jo', e', hrow⟩
    · rw [hx] at hy; simp at hy
    cases e'
    obtain ⟨j0, j1, j2⟩ := lj_at hrow hy
    have hac := hra _ (List.mem_of_getElem? hy)
    obtain ⟨rad2, racp2, hrv⟩ := hac.len
    rw [hrv] at j2
    have jl : jb < _ := World.block_lt_of_cell? _ _ j0
    clear hra hrow hac hrv hy
    have kD := h11.dw.v.dn (show ({ x1 with es := x1.es.set i { e with bg := true, nx := e.nx + 1 } } : Rs).en[i]? = some (-1) from HA.out.2.2.2.2.1)
    have kE := h11.dw.ends (show ({ x1 with es := x1.es.set i { e with bg := true, nx := e.nx + 1 } } : Rs).en[i]? = some (-1) from HA.out.2.2.2.2.1)
    have neSD : ¬ (d.S = d.D) := ndx h11.dw.nd (i := 0) (j := 6) (by decide) rfl rfl
    have neDS : ¬ (d.D = d.S) := ndx h11.dw.nd (i := 6) (j := 0) (by decide) rfl rfl
    have neSE : ¬ (d.S = od.E) := ndx h11.dw.nd (i := 0) (j := 9) (by decide) rfl rfl
    have neES : ¬ (od.E = d.S) := ndx h11.dw.nd (i := 9) (j := 0) (by decide) rfl rfl
    have neOD : ¬ (od.O = d.D) := ndx h11.dw.nd (i := 8) (j := 6) (by decide) rfl rfl
    have neDO : ¬ (d.D = od.O) := ndx h11.dw.nd (i := 6) (j := 8) (by decide) rfl rfl
    have neOE : ¬ (od.O = od.E) := ndx h11.dw.nd (i := 8) (j := 9) (by decide) rfl rfl
    have neEO : ¬ (od.E = od.O) := ndx h11.dw.nd (i := 9) (j := 8) (by decide) rfl rfl
    have neDE : ¬ (d.D = od.E) := ndx h11.dw.nd (i := 6) (j := 9) (by decide) rfl rfl
    have neED : ¬ (od.E = d.D) := ndx h11.dw.nd (i := 9) (j := 6) (by decide) rfl rfl
    have H11 : Hid (DA Wn ((w11.setCell ⟨d.D, i, none⟩ (.bool true)).setCell ⟨od.E, i, none⟩ (.int .i64 (t : Int))) d od base pr (.slice (some ⟨jb, jo, none⟩) l.length cp) l (.slice ra rn rc) runs { x1 with es := x1.es.set i { e with bg := true, nx := e.nx + 1 }, en := x1.en.set i (t : Int) } cnt1 D1 ga ⟨3, (m : Int)⟩) := h11.fin i t (by omega)
    unfold sl0 at *
    clear h11
    refine wp_region_noPanic ?_
    refine wp_region_held_drew (S := fun w' => w'.cell? ⟨d.S, 7, none⟩ = some (.slice (some ⟨d.D, 0, none⟩) l.length l.length) ∧ w'.cell? ⟨od.O, 1, none⟩ = some (.slice (some ⟨od.E, 0, none⟩) l.length l.length)) (by kernel_rfl) (⟨n7, o1⟩) (fun hHeld => ?_)
    refine take_at (i := 0) (n := 253) (v := ?_) rfl rfl (by kernel_rfl) (by kernel_rfl) (by kernel_rfl) (fun _ _ _ h => h) (Or.inl ⟨by rfl, ?_⟩) (by assumption) ?_
    rotate_left 1
    · intro wz hSw
      obtain ⟨s0, s1⟩ := hSw
      first | (go_simp; done) | (go_simp; with_reducible rfl)
    simp only [List.set_cons_zero, List.set_cons_succ]
    refine take_at (i := 1) (n := 254) (v := ?_) rfl rfl (by kernel_rfl) (by kernel_rfl) (by kernel_rfl) (fun _ _ _ h => h) (Or.inl ⟨by rfl, ?_⟩) (by assumption) ?_
    rotate_left 1
    · intro wz hSw
      obtain ⟨s0, s1⟩ := hSw
      first | (go_simp; done) | (go_simp; with_reducible rfl)
    simp only [List.set_cons_zero, List.set_cons_succ]
    refine take_at (i := 2) (n := 255) (v := ?_) rfl rfl (by kernel_rfl) (by kernel_rfl) (by kernel_rfl) (fun _ _ _ h => h) (Or.inl ⟨by rfl, ?_⟩) (by assumption) ?_
    rotate_left 1
    · intro wz hSw
      obtain ⟨s0, s1⟩ := hSw
      first | (go_simp; done) | (go_simp; with_reducible rfl)
    simp only [List.set_cons_zero, List.set_cons_succ]
    refine take_at (i := 3) (n := 256) (v := ?_) rfl rfl (by kernel_rfl) (by kernel_rfl) (by kernel_rfl) (fun _ _ _ h => h) (Or.inl ⟨by rfl, ?_⟩) (by assumption) ?_
    rotate_left 1
    · intro wz hSw
      obtain ⟨s0, s1⟩ := hSw
      first | (go_simp; done) | (go_simp; with_reducible rfl)
    simp only [List.set_cons_zero, List.set_cons_succ]
    refine take_at (i := 4) (n := 257) (v := ?_) rfl rfl (by kernel_rfl) (by kernel_rfl) (by kernel_rfl) (fun _ _ _ h => h) (Or.inl ⟨by rfl, ?_⟩) (by assumption) ?_
    rotate_left 1
    · intro wz hSw
      obtain ⟨s0, s1⟩ := hSw
      first | (go_simp; done) | (go_simp; with_reducible rfl)
    simp only [List.set_cons_zero, List.set_cons_succ]
    refine take_at (i := 5) (n := 258) (v := ?_) rfl rfl (by kernel_rfl) (by kernel_rfl) (by kernel_rfl) (fun _ _ _ h => h) (Or.inl ⟨by rfl, ?_⟩) (by assumption) ?_
    rotate_left 1
    · intro wz hSw
      obtain ⟨s0, s1⟩ := hSw
      first | (go_simp; done) | (go_simp; with_reducible rfl)
    simp only [List.set_cons_zero, List.set_cons_succ]
    refine take_at (i := 6) (n := 259) (v := ?_) rfl rfl (by kernel_rfl) (by kernel_rfl) (by kernel_rfl) (fun _ _ _ h => h) (Or.inl ⟨by rfl, ?_⟩) (by assumption) ?_
    rotate_left 1
    · intro wz hSw
      obtain ⟨s0, s1⟩ := hSw
      first | (go_simp; done) | (go_simp; with_reducible rfl)
    simp only [List.set_cons_zero, List.set_cons_succ]
    refine take_at (i := 7) (n := 260) (v := ?_) rfl rfl (by kernel_rfl) (by kernel_rfl) (by kernel_rfl) (fun _ _ _ h => h) (Or.inl ⟨by rfl, ?_⟩) (by assumption) ?_
    rotate_left 1
    · intro wz hSw
      obtain ⟨s0, s1⟩ := hSw
      first | (go_simp; done) | (go_simp; with_reducible rfl)
    simp only [List.set_cons_zero, List.set_cons_succ]
    refine take_at (i := 8) (n := 261) (v := ?_) rfl rfl (by kernel_rfl) (by kernel_rfl) (by kernel_rfl) (fun _ _ _ h => h) (Or.inl ⟨by rfl, ?_⟩) (by assumption) ?_
    rotate_left 1
    · intro wz hSw
      obtain ⟨s0, s1⟩ := hSw
      first | (go_simp; done) | (go_simp; with_reducible rfl)
    simp only [List.set_cons_zero, List.set_cons_succ]
    refine take_at (i := 9) (n := 262) (v := ?_) rfl rfl (by kernel_rfl) (by kernel_rfl) (by kernel_rfl) (fun _ _ _ h => h) (Or.inl ⟨by rfl, ?_⟩) (by assumption) ?_
    rotate_left 1
    · intro wz hSw
      obtain ⟨s0, s1⟩ := hSw
      first | (go_simp; done) | (go_simp; with_reducible rfl)
    simp only [List.set_cons_zero, List.set_cons_succ]
    refine wpAnyH_ready (rs := [10]) (by kernel_rfl) (by simp) ?_
    refine AllReadyH.cons rfl (fun K hK => ?_) AllReadyH.nil
    go_simp
    refine hK.out _ _ (by refine ⟨?_, ?_⟩ <;> go_simp) (fun hHeld => ?_)
    clear hK K
    refine take_at (i := 11) (n := 263) (v := ?_) rfl rfl (by kernel_rfl) (by kernel_rfl) (by kernel_rfl) (fun _ _ _ h => h) (Or.inl ⟨by rfl, ?_⟩) (by assumption) ?_
    rotate_left 1
    · intro wz hSw
      obtain ⟨s0, s1⟩ := hSw
      first | (go_simp; done) | (go_simp; with_reducible rfl)
    simp only [List.set_cons_zero, List.set_cons_succ]
    refine wpAnyH_ready (rs := [12]) (by kernel_rfl) (by simp) ?_
    refine AllReadyH.cons rfl (fun K hK => ?_) AllReadyH.nil
    go_simp
    refine hK.out _ _ (by refine ⟨?_, ?_⟩ <;> go_simp) (fun hHeld => ?_)
    clear hK K
    refine wpAnyH_done (by kernel_rfl) ?_ _
    refine NoPanic.normal ?_
    go_wp2_with fail
    refine wp_world (fun w' => DA Wn w' d od base pr (.slice (some ⟨jb, jo, none⟩) l.length cp) l (.slice ra rn rc) runs { x1 with es := x1.es.set i { e with bg := true, nx := e.nx + 1 }, en := x1.en.set i (t : Int) } cnt1 D1 ga ⟨3, (m : Int)⟩) (by first | exact H11.out | exact H11.out.grow (Below.refl _ _).drew) (fun w12 h12 => ?_)
    clear n0 n1 n2 n3 n4 n5 n6 n7 n8 o0 o1 o2 o3 lS lP lA lK lB lW lD lM lO lE lT fA fK fW fD fE
    clear g0 g1 gl kA kK kB kW j0 j1 j2 jl gnA ngA gnK ngK gnW ngW gnD ngD gnE ngE gnO ngO
    clear H11 kD kE neSD neDS neSE neES neOD neDO neOE neEO neDE neED
    obtain ⟨n0, n1, n2, n3, n4, n5, n6, n7, n8⟩ := h12.dw.v.own
    obtain ⟨o0, o1, o2, o3⟩ := h12.dw.out
    obtain ⟨lS, lP, lA, lK, lB, lW, lD, lM⟩ := h12.dw.v.lts
    obtain ⟨lO, lE, lT⟩ := h12.dw.lts
    obtain ⟨fA', fK', fB', fW', fD', fO', fE', fT'⟩ := h12.dw.frz
    have fA := fA' i
    have fK := fK' i
    have fW := fW' i
    have fD := fD' i
    have fE := fE' i
    clear fA' fK' fB' fW' fD' fO' fE' fT'
    have gnA : ¬ (ga = d.A) := by have h1 := h12.gb; have h2 := (h12.dw.lo d.A (by simp [blks])).2; omega
    have ngA : ¬ (d.A = ga) := fun h => gnA h.symm
    have gnK : ¬ (ga = d.K) := by have h1 := h12.gb; have h2 := (h12.dw.lo d.K (by simp [blks])).2; omega
    have ngK : ¬ (d.K = ga) := fun h => gnK h.symm
    have gnW : ¬ (ga = d.W) := by have h1 := h12.gb; have h2 := (h12.dw.lo d.W (by simp [blks])).2; omega
    have ngW : ¬ (d.W = ga) := fun h => gnW h.symm
    have gnD : ¬ (ga = d.D) := by have h1 := h12.gb; have h2 := (h12.dw.lo d.D (by simp [blks])).2; omega
    have ngD : ¬ (d.D = ga) := fun h => gnD h.symm
    have gnE : ¬ (ga = od.E) := by have h1 := h12.gb; have h2 := (h12.dw.lo od.E (by simp [blks])).2; omega
    have ngE : ¬ (od.E = ga) := fun h => gnE h.symm
    have gnO : ¬ (ga = od.O) := by have h1 := h12.gb; have h2 := (h12.dw.lo od.O (by simp [blks])).2; omega
    have ngO : ¬ (od.O = ga) := fun h => gnO h.symm
    obtain ⟨g0, g1, gl⟩ := h12.act
    obtain ⟨kA, kK, kB, kW⟩ := h12.dw.v.ent hse
    obtain ⟨⟨ad', cp', e', -, -, hrw⟩, hra⟩ := h12.dw.v.job
    cases e'
    have hy := H1.out.2.1.job HA.out.2.2.2.1
    rcases hrw with hx | ⟨jb', jo', e', hrow⟩
    · rw [hx] at hy; simp at hy
    cases e'
    obtain ⟨j0, j1, j2⟩ := lj_at hrow hy
    have hac := hra _ (List.mem_of_getElem? hy)
    obtain ⟨rad2, racp2, hrv⟩ := hac.len
    rw [hrv] at j2
    have jl : jb < _ := World.block_lt_of_cell? _ _ j0
    clear hra hrow hac hrv hy
    obtain ⟨W8, D8, hpt, hdw8⟩ := (h12.grow (Below.refl _ w12).drew).del hm4 (show ({ x1 with es := x1.es.set i { e with bg := true, nx := e.nx + 1 }, en := x1.en.set i (t : Int) } : Rs).hs.length = 4 from H1.out.2.1.nh)
    have HPt : Hid (∀ ty, (Builtin.delete_ #[56, 3] ty #[.map (some d.M), .int .i64 (m : Int)]).run Try.prog w12.drew = .ok (.tuple #[]) W8) := hpt
    have H8 : Hid (DA Wn W8 d od base pr (.slice (some ⟨jb, jo, none⟩) l.length cp) l (.slice ra rn rc) runs { x1 with es := mid (unF (m : Int)) (x1.es.set i { e with bg := true, nx := e.nx + 1 }) 0, en := x1.en.set i (t : Int), hs := x1.hs.set m (-1) } cnt1 D8 ga ⟨3, (m : Int)⟩) := by rw [mid_zero]; exact hdw8
    unfold sl0 at *
    have hS0 : (fun w' : World => w'.cell? ⟨d.S, 8, none⟩ = some (.map (some d.M)) ∧ w'.cell? ⟨ga, 1, none⟩ = some (.int .i64 (m : Int))) w12.drew := ⟨n8, g1⟩
    clear h12 hdw8 hpt
    refine wp_region_noPanic ?_
    refine wp_region_last (S := fun w' => w'.cell? ⟨d.S, 8, none⟩ = some (.map (some d.M)) ∧ w'.cell? ⟨ga, 1, none⟩ = some (.int .i64 (m : Int))) (L := 6) (by kernel_rfl) ?_
    refine takeL_at (i := 0) (n := 274) (v := ?_) rfl rfl (by kernel_rfl) (by kernel_rfl) (by decide) (by kernel_rfl) (by kernel_rfl) (by kernel_rfl) (fun _ _ _ h => h) (Or.inl ⟨by rfl, ?_⟩) (by assumption) ?_
    rotate_left 1
    · intro wz hSw
      obtain ⟨s0, s1⟩ := hSw
      first | (go_simp; done) | (go_simp; with_reducible rfl)
    simp only [List.set_cons_zero, List.set_cons_succ]
    refine takeL_at (i := 1) (n := 275) (v := ?_) rfl rfl (by kernel_rfl) (by kernel_rfl) (by decide) (by kernel_rfl) (by kernel_rfl) (by kernel_rfl) (fun _ _ _ h => h) (Or.inl ⟨by rfl, ?_⟩) (by assumption) ?_
    rotate_left 1
    · intro wz hSw
      obtain ⟨s0, s1⟩ := hSw
      first | (go_simp; done) | (go_simp; with_reducible rfl)
    simp only [List.set_cons_zero, List.set_cons_succ]
    refine takeL_at (i := 2) (n := 276) (v := ?_) rfl rfl (by kernel_rfl) (by kernel_rfl) (by decide) (by kernel_rfl) (by kernel_rfl) (by kernel_rfl) (fun _ _ _ h => h) (Or.inl ⟨by rfl, ?_⟩) (by assumption) ?_
    rotate_left 1
    · intro wz hSw
      obtain ⟨s0, s1⟩ := hSw
      first | (go_simp; done) | (go_simp; with_reducible rfl)
    simp only [List.set_cons_zero, List.set_cons_succ]
    refine takeL_at (i := 3) (n := 277) (v := ?_) rfl rfl (by kernel_rfl) (by kernel_rfl) (by decide) (by kernel_rfl) (by kernel_rfl) (by kernel_rfl) (fun _ _ _ h => h) (Or.inl ⟨by rfl, ?_⟩) (by assumption) ?_
    rotate_left 1
    · intro wz hSw
      obtain ⟨s0, s1⟩ := hSw
      first | (go_simp; done) | (go_simp; with_reducible rfl)
    simp only [List.set_cons_zero, List.set_cons_succ]
    refine takeL_at (i := 4) (n := 278) (v := ?_) rfl rfl (by kernel_rfl) (by kernel_rfl) (by decide) (by kernel_rfl) (by kernel_rfl) (by kernel_rfl) (fun _ _ _ h => h) (Or.inl ⟨by rfl, ?_⟩) (by assumption) ?_
    rotate_left 1
    · intro wz hSw
      obtain ⟨s0, s1⟩ := hSw
      first | (go_simp; done) | (go_simp; with_reducible rfl)
    simp only [List.set_cons_zero, List.set_cons_succ]
    refine takeL_at (i := 5) (n := 279) (v := ?_) rfl rfl (by kernel_rfl) (by kernel_rfl) (by decide) (by kernel_rfl) (by kernel_rfl) (by kernel_rfl) (fun _ _ _ h => h) (Or.inl ⟨by rfl, ?_⟩) (by assumption) ?_
    rotate_left 1
    · intro wz hSw
      obtain ⟨s0, s1⟩ := hSw
      first | (go_simp; done) | (go_simp; with_reducible rfl)
    simp only [List.set_cons_zero, List.set_cons_succ]
    refine wpAnyL_one (i := 6) (by kernel_rfl) rfl (fun K' hK' => ?_)
    refine region_delete rfl (.tmp 277) (.tmp 279) 56 3 rfl rfl rfl (HPt.out _) ?_
    refine hK'.out _ _ (fun h => absurd rfl h) ?_
    clear hK' K'
    refine wpAnyL_done (by kernel_rfl) ?_ _
    refine NoPanic.normal ?_
    go_wp2_with fail
    clear n0 n1 n2 n3 n4 n5 n6 n7 n8 o0 o1 o2 o3 lS lP lA lK lB lW lD lM lO lE lT fA fK fW fD fE
    clear g0 g1 gl kA kK kB kW j0 j1 j2 jl gnA ngA gnK ngK gnW ngW gnD ngD gnE ngE gnO ngO
    clear hS0 HPt
    have hl3 : (x1.es.set i { e with bg := true, nx := e.nx + 1 }).length = l.length := by rw [List.length_set, H1.out.2.1.len]
    go_loopw [282] (fun v wl => ∃ k : Nat, k ≤ l.length ∧ v = .int .i64 k ∧ DA Wn wl d od base pr (.slice (some ⟨jb, jo, none⟩) l.length cp) l (.slice ra rn rc) runs { x1 with es := mid (unF (m : Int)) (x1.es.set i { e with bg := true, nx := e.nx + 1 }) k, en := x1.en.set i (t : Int), hs := x1.hs.set m (-1) } cnt1 D8 ga ⟨3, (m : Int)⟩) (fun v _ => l.length - (intOf v).toNat)
    case atStart => exact ⟨0, Nat.zero_le _, rfl, H8.out⟩
    case round =>
      obtain ⟨k, hk, rfl, hda⟩ := hrel
      by_cases hlt : k < l.length
      · obtain ⟨ek, hek⟩ := at_lt hl3 hlt
        obtain ⟨-, -, -, kW⟩ := hda.dw.v.ent (mid_at (unF (m : Int)) hek)
        obtain ⟨-, -, -, -, -, -, n6, -, -⟩ := hda.dw.v.own
        obtain ⟨g0, g1, gl⟩ := hda.act
        have fW := hda.dw.frz.2.2.2.1 k
        have lW := hda.dw.v.lts.2.2.2.2.2.1
        have lS := hda.dw.v.lts.1
        have hki : (k : Int) < (l.length : Int) := by omega
        unfold sl0 at *
        by_cases hw : ek.wt = (m : Int)
        · have hwb : (ek.wt == (m : Int)) = true := by simpa using hw
          have HN : Hid (∀ q, DA Wn ((wr.drewN q).setCell ⟨d.W, k, none⟩ (.int .i64 (-1))) d od base pr (.slice (some ⟨jb, jo, none⟩) l.length cp) l (.slice ra rn rc) runs { x1 with es := mid (unF (m : Int)) (x1.es.set i { e with bg := true, nx := e.nx + 1 }) (k + 1), en := x1.en.set i (t : Int), hs := x1.hs.set m (-1) } cnt1 D8 ga ⟨3, (m : Int)⟩) := fun q => by
            have hg : DA Wn (wr.drewN q) d od base pr (.slice (some ⟨jb, jo, none⟩) l.length cp) l (.slice ra rn rc) runs { x1 with es := mid (unF (m : Int)) (x1.es.set i { e with bg := true, nx := e.nx + 1 }) k, en := x1.en.set i (t : Int), hs := x1.hs.set m (-1) } cnt1 D8 ga ⟨3, (m : Int)⟩ := hda.grow below_drewN'
            have r := hg.set (b := d.W) (by simp [blks]) (hg.dw.setW (mid_at (unF (m : Int)) hek) (-1))
            dsimp only at r
            rw [show ({ ek with wt := -1 } : En) = unF (m : Int) ek by unfold unF; rw [if_pos hw], mid_set (unF (m : Int)) hek] at r
            exact r
          clear hda hek hw
          go_wp2_with fail
          go_quiet (fail)
          go_wp2_with fail
          exact ⟨⟨k + 1, by omega, by simp, HN.out _⟩, by simp [intOf]; omega⟩
        · have hwb : (ek.wt == (m : Int)) = false := by simpa using hw
          have HN : Hid (∀ q, DA Wn (wr.drewN q) d od base pr (.slice (some ⟨jb, jo, none⟩) l.length cp) l (.slice ra rn rc) runs { x1 with es := mid (unF (m : Int)) (x1.es.set i { e with bg := true, nx := e.nx + 1 }) (k + 1), en := x1.en.set i (t : Int), hs := x1.hs.set m (-1) } cnt1 D8 ga ⟨3, (m : Int)⟩) := fun q => by
            rw [← mid_same (unF (m : Int)) hek (by unfold unF; rw [if_neg hw])]
            exact hda.grow below_drewN'
          clear hda hek hw
          go_wp2_with fail
          go_quiet (fail)
          go_wp2_with fail
          exact ⟨⟨k + 1, by omega, by simp, HN.out _⟩, by simp [intOf]; omega⟩
      · have hke : k = l.length := by omega
        subst hke
        have HZ : Hid (DW Wn wr d od base pr (.slice (some ⟨jb, jo, none⟩) l.length cp) l (.slice ra rn rc) runs z cnt1 D8) := by
          have q := hda.dw
          have hall : ∀ f : En → En, mid f (x1.es.set i { e with bg := true, nx := e.nx + 1 }) l.length = (x1.es.set i { e with bg := true, nx := e.nx + 1 }).map f := fun f => by rw [← hl3, mid_all]
          rw [hall] at q
          have hrn0 : e.rn = 0 := (((H1.out.2.1.rn i e HA.out.2.2.2.1).2 _ HC.out).2 (show (3 : Int) ≠ 1 by decide))
          have hun := set_un (es := x1.es) (i := i) (e := e) (m : Int)
          rw [hrn0] at hun q
          rw [hz, endF_pos _ _ (unF (m : Int) (begF e)) _ (by rw [unF_nx, unF_x]; exact hl)]
          dsimp only
          rw [hun]
          exact q
        clear hda
        go_wp2_with fail
        go_roundg (gk - 1)
        case measure => have := H1.out.2.2.1; omega
        case rel => exact ⟨z, cnt1, D8, HZ.out, HA.out.2.1, by have h7 := HA.out.2.2.1 (by first | rfl | trivial); have := H1.out.2.2.1; omega, by have h7 := HA.out.2.2.1 (by first | rfl | trivial); have := H1.out.2.2.2.1; omega, fun f y h => H1.out.2.2.2.2 f y (.more HF0.out.1 HA.out.1 h)⟩
  · have hlb : ((e.nx : Int) + 1 == (e.x.acts.length : Int)) = false := by simp; omega
    go_wp2_with fail
    refine wp_world (fun w' => DA Wn w' d od base pr (.slice (some ⟨jb, jo, none⟩) l.length cp) l (.slice ra rn rc) runs { x1 with es := x1.es.set i { e with bg := true, nx := e.nx + 1 } } cnt1 D1 ga ⟨3, (m : Int)⟩) (by first | exact HA3.out _ H10.out | exact HA3.out _ (H10.out.grow (Below.refl _ _).drew) | exact (HA3.out _ H10.out).grow (Below.refl _ _).drew | exact HA3.out _ (H10.out.grow below_drewN')) (fun w12 h12 => ?_)
    clear n0 n1 n2 n3 n4 n5 n6 n7 n8 o0 o1 o2 o3 lS lP lA lK lB lW lD lM lO lE lT fA fK fW fD fE
    clear g0 g1 gl kA kK kB kW j0 j1 j2 jl gnA ngA gnK ngK gnW ngW gnD ngD gnE ngE gnO ngO
    clear H10 hlk HA3 hse
    have hse : (x1.es.set i { e with bg := true, nx := e.nx + 1 })[i]? = some { e with bg := true, nx := e.nx + 1 } := List.getElem?_set_self (by rw [H1.out.2.1.len]; exact hil)
    obtain ⟨n0, n1, n2, n3, n4, n5, n6, n7, n8⟩ := h12.dw.v.own
    obtain ⟨o0, o1, o2, o3⟩ := h12.dw.out
    obtain ⟨lS, lP, lA, lK, lB, lW, lD, lM⟩ := h12.dw.v.lts
    obtain ⟨lO, lE, lT⟩ := h12.dw.lts
    obtain ⟨fA', fK', fB', fW', fD', fO', fE', fT'⟩ := h12.dw.frz
    have fA := fA' i
    have fK := fK' i
    have fW := fW' i
    have fD := fD' i
    have fE := fE' i
    clear fA' fK' fB' fW' fD' fO' fE' fT'
    have gnA : ¬ (ga = d.A) := by have h1 := h12.gb; have h2 := (h12.dw.lo d.A (by simp [blks])).2; omega
    have ngA : ¬ (d.A = ga) := fun h => gnA h.symm
    have gnK : ¬ (ga = d.K) := by have h1 := h12.gb; have h2 := (h12.dw.lo d.K (by simp [blks])).2; omega
    have ngK : ¬ (d.K = ga) := fun h => gnK h.symm
    have gnW : ¬ (ga = d.W) := by have h1 := h12.gb; have h2 := (h12.dw.lo d.W (by simp [blks])).2; omega
    have ngW : ¬ (d.W = ga) := fun h => gnW h.symm
    have gnD : ¬ (ga = d.D) := by have h1 := h12.gb; have h2 := (h12.dw.lo d.D (by simp [blks])).2; omega
    have ngD : ¬ (d.D = ga) := fun h => gnD h.symm
    have gnE : ¬ (ga = od.E) := by have h1 := h12.gb; have h2 := (h12.dw.lo od.E (by simp [blks])).2; omega
    have ngE : ¬ (od.E = ga) := fun h => gnE h.symm
    have gnO : ¬ (ga = od.O) := by have h1 := h12.gb; have h2 := (h12.dw.lo od.O (by simp [blks])).2; omega
    have ngO : ¬ (od.O = ga) := fun h => gnO h.symm
    obtain ⟨g0, g1, gl⟩ := h12.act
    obtain ⟨kA, kK, kB, kW⟩ := h12.dw.v.ent hse
    obtain ⟨⟨ad', cp', e', -, -, hrw⟩, hra⟩ := h12.dw.v.job
    cases e'
    have hy := H1.out.2.1.job HA.out.2.2.2.1
    rcases hrw with hx | ⟨jb', jo', e', hrow⟩
    · rw [hx] at hy; simp at hy
    cases e'
    obtain ⟨j0, j1, j2⟩ := lj_at hrow hy
    have hac := hra _ (List.mem_of_getElem? hy)
    obtain ⟨rad2, racp2, hrv⟩ := hac.len
    rw [hrv] at j2
    have jl : jb < _ := World.block_lt_of_cell? _ _ j0
    clear hra hrow hac hrv hy
    obtain ⟨W8, D8, hpt, hdw8⟩ := (h12.grow (Below.refl _ w12).drew).del hm4 (show ({ x1 with es := x1.es.set i { e with bg := true, nx := e.nx + 1 } } : Rs).hs.length = 4 from H1.out.2.1.nh)
    have HPt : Hid (∀ ty, (Builtin.delete_ #[56, 3] ty #[.map (some d.M), .int .i64 (m : Int)]).run Try.prog w12.drew = .ok (.tuple #[]) W8) := hpt
    have H8 : Hid (DA Wn W8 d od base pr (.slice (some ⟨jb, jo, none⟩) l.length cp) l (.slice ra rn rc) runs { x1 with es := mid (unF (m : Int)) (x1.es.set i { e with bg := true, nx := e.nx + 1 }) 0, en := x1.en, hs := x1.hs.set m (-1) } cnt1 D8 ga ⟨3, (m : Int)⟩) := by rw [mid_zero]; exact hdw8
    unfold sl0 at *
    have hS0 : (fun w' : World => w'.cell? ⟨d.S, 8, none⟩ = some (.map (some d.M)) ∧ w'.cell? ⟨ga, 1, none⟩ = some (.int .i64 (m : Int))) w12.drew := ⟨n8, g1⟩
    clear h12 hdw8 hpt
    refine wp_region_noPanic ?_
    refine wp_region_last (S := fun w' => w'.cell? ⟨d.S, 8, none⟩ = some (.map (some d.M)) ∧ w'.cell? ⟨ga, 1, none⟩ = some (.int .i64 (m : Int))) (L := 6) (by kernel_rfl) ?_
    refine takeL_at (i := 0) (n := 274) (v := ?_) rfl rfl (by kernel_rfl) (by kernel_rfl) (by decide) (by kernel_rfl) (by kernel_rfl) (by kernel_rfl) (fun _ _ _ h => h) (Or.inl ⟨by rfl, ?_⟩) (by assumption) ?_
    rotate_left 1
    · intro wz hSw
      obtain ⟨s0, s1⟩ := hSw
      first | (go_simp; done) | (go_simp; with_reducible rfl)
    simp only [List.set_cons_zero, List.set_cons_succ]
    refine takeL_at (i := 1) (n := 275) (v := ?_) rfl rfl (by kernel_rfl) (by kernel_rfl) (by decide) (by kernel_rfl) (by kernel_rfl) (by kernel_rfl) (fun _ _ _ h => h) (Or.inl ⟨by rfl, ?_⟩) (by assumption) ?_
    rotate_left 1
    · intro wz hSw
      obtain ⟨s0, s1⟩ := hSw
      first | (go_simp; done) | (go_simp; with_reducible rfl)
    simp only [List.set_cons_zero, List.set_cons_succ]
    refine takeL_at (i := 2) (n := 276) (v := ?_) rfl rfl (by kernel_rfl) (by kernel_rfl) (by decide) (by kernel_rfl) (by kernel_rfl) (by kernel_rfl) (fun _ _ _ h => h) (Or.inl ⟨by rfl, ?_⟩) (by assumption) ?_
    rotate_left 1
    · intro wz hSw
      obtain ⟨s0, s1⟩ := hSw
      first | (go_simp; done) | (go_simp; with_reducible rfl)
    simp only [List.set_cons_zero, List.set_cons_succ]
    refine takeL_at (i := 3) (n := 277) (v := ?_) rfl rfl (by kernel_rfl) (by kernel_rfl) (by decide) (by kernel_rfl) (by kernel_rfl) (by kernel_rfl) (fun _ _ _ h => h) (Or.inl ⟨by rfl, ?_⟩) (by assumption) ?_
    rotate_left 1
    · intro wz hSw
      obtain ⟨s0, s1⟩ := hSw
      first | (go_simp; done) | (go_simp; with_reducible rfl)
    simp only [List.set_cons_zero, List.set_cons_succ]
    refine takeL_at (i := 4) (n := 278) (v := ?_) rfl rfl (by kernel_rfl) (by kernel_rfl) (by decide) (by kernel_rfl) (by kernel_rfl) (by kernel_rfl) (fun _ _ _ h => h) (Or.inl ⟨by rfl, ?_⟩) (by assumption) ?_
    rotate_left 1
    · intro wz hSw
      obtain ⟨s0, s1⟩ := hSw
      first | (go_simp; done) | (go_simp; with_reducible rfl)
    simp only [List.set_cons_zero, List.set_cons_succ]
    refine takeL_at (i := 5) (n := 279) (v := ?_) rfl rfl (by kernel_rfl) (by kernel_rfl) (by decide) (by kernel_rfl) (by kernel_rfl) (by kernel_rfl) (fun _ _ _ h => h) (Or.inl ⟨by rfl, ?_⟩) (by assumption) ?_
    rotate_left 1
    · intro wz hSw
      obtain ⟨s0, s1⟩ := hSw
      first | (go_simp; done) | (go_simp; with_reducible rfl)
    simp only [List.set_cons_zero, List.set_cons_succ]
    refine wpAnyL_one (i := 6) (by kernel_rfl) rfl (fun K' hK' => ?_)
    refine region_delete rfl (.tmp 277) (.tmp 279) 56 3 rfl rfl rfl (HPt.out _) ?_
    refine hK'.out _ _ (fun h => absurd rfl h) ?_
    clear hK' K'
    refine wpAnyL_done (by kernel_rfl) ?_ _
    refine NoPanic.normal ?_
    go_wp2_with fail
    clear n0 n1 n2 n3 n4 n5 n6 n7 n8 o0 o1 o2 o3 lS lP lA lK lB lW lD lM lO lE lT fA fK fW fD fE
    clear g0 g1 gl kA kK kB kW j0 j1 j2 jl gnA ngA gnK ngK gnW ngW gnD ngD gnE ngE gnO ngO
    clear hS0 HPt
    have hl3 : (x1.es.set i { e with bg := true, nx := e.nx + 1 }).length = l.length := by rw [List.length_set, H1.out.2.1.len]
    go_loopw [282] (fun v wl => ∃ k : Nat, k ≤ l.length ∧ v = .int .i64 k ∧ DA Wn wl d od base pr (.slice (some ⟨jb, jo, none⟩) l.length cp) l (.slice ra rn rc) runs { x1 with es := mid (unF (m : Int)) (x1.es.set i { e with bg := true, nx := e.nx + 1 }) k, en := x1.en, hs := x1.hs.set m (-1) } cnt1 D8 ga ⟨3, (m : Int)⟩) (fun v _ => l.length - (intOf v).toNat)
    case atStart => exact ⟨0, Nat.zero_le _, rfl, H8.out⟩
    case round =>
      obtain ⟨k, hk, rfl, hda⟩ := hrel
      by_cases hlt : k < l.length
      · obtain ⟨ek, hek⟩ := at_lt hl3 hlt
        obtain ⟨-, -, -, kW⟩ := hda.dw.v.ent (mid_at (unF (m : Int)) hek)
        obtain ⟨-, -, -, -, -, -, n6, -, -⟩ := hda.dw.v.own
        obtain ⟨g0, g1, gl⟩ := hda.act
        have fW := hda.dw.frz.2.2.2.1 k
        have lW := hda.dw.v.lts.2.2.2.2.2.1
        have lS := hda.dw.v.lts.1
        have hki : (k : Int) < (l.length : Int) := by omega
        unfold sl0 at *
        by_cases hw : ek.wt = (m : Int)
        · have hwb : (ek.wt == (m : Int)) = true := by simpa using hw
          have HN : Hid (∀ q, DA Wn ((wr.drewN q).setCell ⟨d.W, k, none⟩ (.int .i64 (-1))) d od base pr (.slice (some ⟨jb, jo, none⟩) l.length cp) l (.slice ra rn rc) runs { x1 with es := mid (unF (m : Int)) (x1.es.set i { e with bg := true, nx := e.nx + 1 }) (k + 1), en := x1.en, hs := x1.hs.set m (-1) } cnt1 D8 ga ⟨3, (m : Int)⟩) := fun q => by
            have hg : DA Wn (wr.drewN q) d od base pr (.slice (some ⟨jb, jo, none⟩) l.length cp) l (.slice ra rn rc) runs { x1 with es := mid (unF (m : Int)) (x1.es.set i { e with bg := true, nx := e.nx + 1 }) k, en := x1.en, hs := x1.hs.set m (-1) } cnt1 D8 ga ⟨3, (m : Int)⟩ := hda.grow below_drewN'
            have r := hg.set (b := d.W) (by simp [blks]) (hg.dw.setW (mid_at (unF (m : Int)) hek) (-1))
            dsimp only at r
            rw [show ({ ek with wt := -1 } : En) = unF (m : Int) ek by unfold unF; rw [if_pos hw], mid_set (unF (m : Int)) hek] at r
            exact r
          clear hda hek hw
          go_wp2_with fail
          go_quiet (fail)
          go_wp2_with fail
          exact ⟨⟨k + 1, by omega, by simp, HN.out _⟩, by simp [intOf]; omega⟩
        · have hwb : (ek.wt == (m : Int)) = false := by simpa using hw
          have HN : Hid (∀ q, DA Wn (wr.drewN q) d od base pr (.slice (some ⟨jb, jo, none⟩) l.length cp) l (.slice ra rn rc) runs { x1 with es := mid (unF (m : Int)) (x1.es.set i { e with bg := true, nx := e.nx + 1 }) (k + 1), en := x1.en, hs := x1.hs.set m (-1) } cnt1 D8 ga ⟨3, (m : Int)⟩) := fun q => by
            rw [← mid_same (unF (m : Int)) hek (by unfold unF; rw [if_neg hw])]
            exact hda.grow below_drewN'
          clear hda hek hw
          go_wp2_with fail
          go_quiet (fail)
          go_wp2_with fail
          exact ⟨⟨k + 1, by omega, by simp, HN.out _⟩, by simp [intOf]; omega⟩
      · have hke : k = l.length := by omega
        subst hke
        have HZ : Hid (DW Wn wr d od base pr (.slice (some ⟨jb, jo, none⟩) l.length cp) l (.slice ra rn rc) runs z cnt1 D8) := by
          have q := hda.dw
          have hall : ∀ f : En → En, mid f (x1.es.set i { e with bg := true, nx := e.nx + 1 }) l.length = (x1.es.set i { e with bg := true, nx := e.nx + 1 }).map f := fun f => by rw [← hl3, mid_all]
          rw [hall] at q
          have hrn0 : e.rn = 0 := (((H1.out.2.1.rn i e HA.out.2.2.2.1).2 _ HC.out).2 (show (3 : Int) ≠ 1 by decide))
          have hun := set_un (es := x1.es) (i := i) (e := e) (m : Int)
          rw [hrn0] at hun q
          rw [hz, endF_neg _ _ (unF (m : Int) (begF e)) _ (by rw [unF_nx, unF_x]; exact hl)]
          dsimp only
          rw [hun]
          exact q
        clear hda
        go_wp2_with fail
        go_roundg (gk - 1)
        case measure => have := H1.out.2.2.1; omega
        case rel => exact ⟨z, cnt1, D8, HZ.out, HA.out.2.1, by have h7 := HA.out.2.2.1 (by first | rfl | trivial); have := H1.out.2.2.1; omega, by have h7 := HA.out.2.2.1 (by first | rfl | trivial); have := H1.out.2.2.2.1; omega, fun f y h => H1.out.2.2.2.2 f y (.more HF0.out.1 HA.out.1 h)⟩
end Go.Proofs.Ytcmoehednkaehah
