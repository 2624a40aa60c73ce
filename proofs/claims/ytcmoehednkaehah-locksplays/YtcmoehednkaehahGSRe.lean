import Derived.Test.YtcmoehednkaehahGSN
import Derived.Test.YtcmoehednkaehahGSQ
import Derived.Test.YtcmoehednkaehahGLS
namespace Go.Proofs.Ytcmoehednkaehah
open Go.ChangeShapes Go.WideShapes Go.ChangeAt Go.RowKit

theorem DA.fin {W0 W : World} {d : Dd} {o : Do} {base : Nat} {pr : Int} {lv : Value} {l : List Lj} {rv : Value} {runs : List Int} {x : Rs} {cnt : Nat} {D : DataW Unit} {ga : Nat} {a : Ac} (h : DA W0 W d o base pr lv l rv runs x cnt D ga a) (i : Nat) (t : Int) (ht : t ≠ -1) : DA W0 ((W.setCell ⟨d.D, i, none⟩ (.bool true)).setCell ⟨o.E, i, none⟩ (.int .i64 t)) d o base pr lv l rv runs { x with en := x.en.set i t } cnt D ga a :=
  ⟨h.dw.fin i t ht, (Below.heap_setCell _ _ _ _ (by have := (h.dw.lo o.E (by simp [blks])).2; have := h.gb; show ¬ (ga = o.E); omega)).trans ((Below.heap_setCell _ _ _ _ (by have := (h.dw.lo d.D (by simp [blks])).2; have := h.gb; show ¬ (ga = d.D); omega)).trans h.ab), h.gb⟩
end Go.Proofs.Ytcmoehednkaehah
namespace Go.Proofs.Ytcmoehednkaehah
open Go.ChangeShapes Go.WideShapes Go.ChangeAt Go.RowKit

set_option maxRecDepth 20000 in
set_option maxHeartbeats 8000000 in
theorem sq_empty : SQp.1 := by
  intro w l pr U hU cp hn _ w1 hp1 hp3 hU0 hU1 _ _ Wn HP fb _ _ W2 _ gP gA gK gB gW gD gM _ W3 _ T vs W4 _ gE gT hHeld _ W5 _ u12 u75 u76 u77 u78 u79 u80 u81 u82 u83 u84 u85 u86 u87 hk hlt base d od _ _ _ _ _ _ _ _ _ u20 u88 u89 u90 u91 u92 _ _ _ _ _ _ _ _ _ _ _ _ _ _ _ _ _ _ _ _ _ _ _ _ _ _ _ _ _ _ _ _ _ _ _ _ _ _ _ _ _ _ _ _ _ _ _ _ _ _ _ _ _ _ _ _ _ _ _ _ _ _ _ _ _ _ _ _ _ _ _ _ _ _ _ _ _ _ _ _ _ _ _ _ _ _ _ _ _ _ _ _ _ _ _ _ _ _ _ _ _ _ _ _ _ _ _ _ _ _ _ _ _ _ _ _ _ _ _ _ _ _ _ _ _ _ _ _ _ _ _ _ _ _ _ _ _ _ _ _ _ _ _ _ _ _ _ _ _ _ _ _ _ _ _ _ _ _ _ _ _ _ _ _ _ _ _ _ _ _ _ _ _ _ _ _ _ _ _ _ _ _ _ _ _ _ _ _ _ _ _ _ _ _ _ _ _ _ _ _ _ _ _ _ _ _ _ _ _ u302 u303 u304 u305 u306 u307 u308 u309 u310 u311 u312 u313 u314 u315 u316 u317 u318 u319 u320 u321 u322 t cnt runs x D ht ra rc rn wo htU hti HT _ _ gk wr u14 u15 u16 u17 u18 u19 u93 u94 u95 u96 u97 u98 u99 u100 u101 u102 u103 u104 u105 u106 u107 u108 u109 u110 u111 u112 u113 u114 u115 u116 u117 u118 u119 u120 u121 u122 u123 u124 u125 u126 u127 u128 u129 u130 u131 u132 u133 u134 u135 u136 u137 u138 u139 u140 u141 u142 u143 u144 u145 u146 u147 u148 u149 u150 u151 u152 u153 u154 u155 u156 u157 u158 u159 u160 u161 u162 u163 u164 u165 u166 u167 u168 u169 u170 u171 u172 u173 u174 u175 u176 u177 u178 u179 u180 u181 u182 u183 u184 u185 u186 u187 u188 u189 u190 u191 u192 u193 u194 u195 u196 u197 u198 u199 u200 u201 u202 u203 u204 u205 u206 u207 u208 u209 u210 u211 u212 u213 u214 u215 u216 u217 u218 u219 u220 u221 u222 u223 u224 u225 u226 u227 u228 u229 u230 u231 u232 u233 u234 u235 u236 u237 u238 u239 u240 u241 u242 u243 u244 u245 u246 u247 u248 u249 u250 u251 u252 u253 u254 u255 u256 u257 u258 u259 u260 u261 u262 u263 u264 u265 u266 u267 u268 u269 u270 u271 u272 u273 u274 u275 u276 u277 u278 u279 u280 u281 u282 u283 u284 u285 u286 u287 u288 u289 u290 u291 u292 u293 u294 u295 u296 u297 u298 u299 u300 u301 _ _ _ x1 cnt1 D1 i HF0 b z e hil hii HA w6 hi0 _ _ w7 jb jo HV HD _ _ HX _ _ _ _ H1 _ rad racp h0 hnx hq nq _ _ w8 h8
  obtain ⟨hb, hz⟩ : b = false ∧ z = { x1 with es := x1.es.set i (begF e), en := x1.en.set i (t : Int) } := by
    rcases act_cases HA.out.2.2.2.1 HA.out.1 with h | ⟨h, -⟩
    · exact h.2
    · exact absurd h0 h
  subst hb
  obtain ⟨n0, n1, n2, n3, n4, n5, n6, n7, n8⟩ := h8.v.own
  obtain ⟨o0, o1, o2, o3⟩ := h8.out
  obtain ⟨lS, lP, lA, lK, lB, lW, lD, lM⟩ := h8.v.lts
  obtain ⟨lO, lE, lT⟩ := h8.lts
  obtain ⟨fA', fK', fB', fW', fD', fO', fE', fT'⟩ := h8.frz
  have fA := fA' i
  have fK := fK' i
  have fW := fW' i
  have fD := fD' i
  have fE := fE' i
  clear fA' fK' fB' fW' fD' fO' fE' fT'
  have kD := h8.v.dn (show ({ x1 with es := x1.es.set i (begF e) } : Rs).en[i]? = some (-1) from HA.out.2.2.2.2.1)
  have kE := h8.ends (show ({ x1 with es := x1.es.set i (begF e) } : Rs).en[i]? = some (-1) from HA.out.2.2.2.2.1)
  have neSD : ¬ (d.S = d.D) := ndx h8.nd (i := 0) (j := 6) (by decide) rfl rfl
  have neDS : ¬ (d.D = d.S) := ndx h8.nd (i := 6) (j := 0) (by decide) rfl rfl
  have neSE : ¬ (d.S = od.E) := ndx h8.nd (i := 0) (j := 9) (by decide) rfl rfl
  have neES : ¬ (od.E = d.S) := ndx h8.nd (i := 9) (j := 0) (by decide) rfl rfl
  have neOD : ¬ (od.O = d.D) := ndx h8.nd (i := 8) (j := 6) (by decide) rfl rfl
  have neDO : ¬ (d.D = od.O) := ndx h8.nd (i := 6) (j := 8) (by decide) rfl rfl
  have neOE : ¬ (od.O = od.E) := ndx h8.nd (i := 8) (j := 9) (by decide) rfl rfl
  have neEO : ¬ (od.E = od.O) := ndx h8.nd (i := 9) (j := 8) (by decide) rfl rfl
  have neDE : ¬ (d.D = od.E) := ndx h8.nd (i := 6) (j := 9) (by decide) rfl rfl
  have neED : ¬ (od.E = d.D) := ndx h8.nd (i := 9) (j := 6) (by decide) rfl rfl
  have HZ : Hid (DW Wn ((w8.setCell ⟨d.D, i, none⟩ (.bool true)).setCell ⟨od.E, i, none⟩ (.int .i64 (t : Int))) d od base pr (.slice (some ⟨jb, jo, none⟩) l.length cp) l (.slice ra rn rc) runs z cnt1 D1) := by rw [hz]; exact h8.fin i t (by omega)
  unfold sl0 at *
  clear h8
  refine wp_region_noPanic ?_
  refine wp_region_held_drew (S := fun w' => w'.cell? ⟨d.S, 7, none⟩ = some (.slice (some ⟨d.D, 0, none⟩) l.length l.length) ∧ w'.cell? ⟨od.O, 1, none⟩ = some (.slice (some ⟨od.E, 0, none⟩) l.length l.length)) (by kernel_rfl) (⟨n7, o1⟩) (fun hHeld => ?_)
  refine take_at (i := 0) (n := 123) (v := ?_) rfl rfl (by kernel_rfl) (by kernel_rfl) (by kernel_rfl) (fun _ _ _ h => h) (Or.inl ⟨by rfl, ?_⟩) (by assumption) ?_
  rotate_left 1
  · intro wz hSw
    obtain ⟨s0, s1⟩ := hSw
    first | (go_simp; done) | (go_simp; with_reducible rfl)
  simp only [List.set_cons_zero, List.set_cons_succ]
  refine take_at (i := 1) (n := 124) (v := ?_) rfl rfl (by kernel_rfl) (by kernel_rfl) (by kernel_rfl) (fun _ _ _ h => h) (Or.inl ⟨by rfl, ?_⟩) (by assumption) ?_
  rotate_left 1
  · intro wz hSw
    obtain ⟨s0, s1⟩ := hSw
    first | (go_simp; done) | (go_simp; with_reducible rfl)
  simp only [List.set_cons_zero, List.set_cons_succ]
  refine take_at (i := 2) (n := 125) (v := ?_) rfl rfl (by kernel_rfl) (by kernel_rfl) (by kernel_rfl) (fun _ _ _ h => h) (Or.inl ⟨by rfl, ?_⟩) (by assumption) ?_
  rotate_left 1
  · intro wz hSw
    obtain ⟨s0, s1⟩ := hSw
    first | (go_simp; done) | (go_simp; with_reducible rfl)
  simp only [List.set_cons_zero, List.set_cons_succ]
  refine take_at (i := 3) (n := 126) (v := ?_) rfl rfl (by kernel_rfl) (by kernel_rfl) (by kernel_rfl) (fun _ _ _ h => h) (Or.inl ⟨by rfl, ?_⟩) (by assumption) ?_
  rotate_left 1
  · intro wz hSw
    obtain ⟨s0, s1⟩ := hSw
    first | (go_simp; done) | (go_simp; with_reducible rfl)
  simp only [List.set_cons_zero, List.set_cons_succ]
  refine take_at (i := 4) (n := 127) (v := ?_) rfl rfl (by kernel_rfl) (by kernel_rfl) (by kernel_rfl) (fun _ _ _ h => h) (Or.inl ⟨by rfl, ?_⟩) (by assumption) ?_
  rotate_left 1
  · intro wz hSw
    obtain ⟨s0, s1⟩ := hSw
    first | (go_simp; done) | (go_simp; with_reducible rfl)
  simp only [List.set_cons_zero, List.set_cons_succ]
  refine take_at (i := 5) (n := 128) (v := ?_) rfl rfl (by kernel_rfl) (by kernel_rfl) (by kernel_rfl) (fun _ _ _ h => h) (Or.inl ⟨by rfl, ?_⟩) (by assumption) ?_
  rotate_left 1
  · intro wz hSw
    obtain ⟨s0, s1⟩ := hSw
    first | (go_simp; done) | (go_simp; with_reducible rfl)
  simp only [List.set_cons_zero, List.set_cons_succ]
  refine take_at (i := 6) (n := 129) (v := ?_) rfl rfl (by kernel_rfl) (by kernel_rfl) (by kernel_rfl) (fun _ _ _ h => h) (Or.inl ⟨by rfl, ?_⟩) (by assumption) ?_
  rotate_left 1
  · intro wz hSw
    obtain ⟨s0, s1⟩ := hSw
    first | (go_simp; done) | (go_simp; with_reducible rfl)
  simp only [List.set_cons_zero, List.set_cons_succ]
  refine take_at (i := 7) (n := 130) (v := ?_) rfl rfl (by kernel_rfl) (by kernel_rfl) (by kernel_rfl) (fun _ _ _ h => h) (Or.inl ⟨by rfl, ?_⟩) (by assumption) ?_
  rotate_left 1
  · intro wz hSw
    obtain ⟨s0, s1⟩ := hSw
    first | (go_simp; done) | (go_simp; with_reducible rfl)
  simp only [List.set_cons_zero, List.set_cons_succ]
  refine take_at (i := 8) (n := 131) (v := ?_) rfl rfl (by kernel_rfl) (by kernel_rfl) (by kernel_rfl) (fun _ _ _ h => h) (Or.inl ⟨by rfl, ?_⟩) (by assumption) ?_
  rotate_left 1
  · intro wz hSw
    obtain ⟨s0, s1⟩ := hSw
    first | (go_simp; done) | (go_simp; with_reducible rfl)
  simp only [List.set_cons_zero, List.set_cons_succ]
  refine take_at (i := 9) (n := 132) (v := ?_) rfl rfl (by kernel_rfl) (by kernel_rfl) (by kernel_rfl) (fun _ _ _ h => h) (Or.inl ⟨by rfl, ?_⟩) (by assumption) ?_
  rotate_left 1
  · intro wz hSw
    obtain ⟨s0, s1⟩ := hSw
    first | (go_simp; done) | (go_simp; with_reducible rfl)
  simp only [List.set_cons_zero, List.set_cons_succ]
  refine wpAnyH_ready (rs := [10]) (by kernel_rfl) (by simp) ?_
  refine AllReadyH.cons rfl (fun K hK => ?_) AllReadyH.nil
  go_simp
  refine hK.out _ _ (by refine ⟨?_, ?_⟩ <;> go_simp) (fun hHeld => ?_)
  clear hK K
  refine take_at (i := 11) (n := 133) (v := ?_) rfl rfl (by kernel_rfl) (by kernel_rfl) (by kernel_rfl) (fun _ _ _ h => h) (Or.inl ⟨by rfl, ?_⟩) (by assumption) ?_
  rotate_left 1
  · intro wz hSw
    obtain ⟨s0, s1⟩ := hSw
    first | (go_simp; done) | (go_simp; with_reducible rfl)
  simp only [List.set_cons_zero, List.set_cons_succ]
  refine wpAnyH_ready (rs := [12]) (by kernel_rfl) (by simp) ?_
  refine AllReadyH.cons rfl (fun K hK => ?_) AllReadyH.nil
  go_simp
  refine hK.out _ _ (by refine ⟨?_, ?_⟩ <;> go_simp) (fun hHeld => ?_)
  clear hK K
  refine wpAnyH_done (by kernel_rfl) ?_ _
  refine NoPanic.normal ?_
  go_wp2_with fail
  go_roundg (gk - 1)
  case measure => have := H1.out.2.2.1; omega
  case rel => exact ⟨z, cnt1, D1, by first | exact HZ.out | exact HZ.out.grow (Below.refl _ _).drew, HA.out.2.1, by have h7 := HA.out.2.2.1 (by first | rfl | trivial); have := H1.out.2.2.1; omega, by have h7 := HA.out.2.2.1 (by first | rfl | trivial); have := H1.out.2.2.2.1; omega, fun f y h => H1.out.2.2.2.2 f y (.more HF0.out.1 HA.out.1 h)⟩
end Go.Proofs.Ytcmoehednkaehah
