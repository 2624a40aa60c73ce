import Derived.Test.YtcmoehednkaehahGSU
import Derived.Deep.Cut
import Derived.Test.YtcmoehednkaehahGSV
import Derived.Test.YtcmoehednkaehahGPC
namespace Go.Proofs.Ytcmoehednkaehah
open Go.ChangeShapes Go.WideShapes Go.ChangeAt Go.RowKit

set_option maxRecDepth 20000 in
set_option maxHeartbeats 2000000 in
theorem Play_proto (w : World) (l : List Lj) (v : Value) (hv : LkSl w l v) (h0 : chkLk l = (0, 0)) (pr : Int) (hp : ¬ (pr = 1 ∨ pr = 2 ∨ pr = 3)) (U : Int) :
    Calls Try.prog 9 #[v, .int .i64 pr, .int .i64 U] w fun r w' => r = .returned (.tuple #[.agg #[.slice none 0 0, .slice none 0 0, .slice none 0 0, .bool false], .agg #[.int .i64 6, .int .i64 0]]) ∧ Below w.heap.size w w' := by
  have HC0 := checkJobs_any ((w.alloc (.cells #[.slice none 0 0, .slice none 0 0, .slice none 0 0, .bool false] 37)).alloc (.cells #[.int .i64 0, .int .i64 0] 31)) l v (hv.below (below_seq (below_new _ _) (below_new _ _)))
  rw [h0] at HC0
  clear hv h0
  go_enter Try.func9, Try.ntmps9
  go_upto_region 4 with (go_at_call 19; refine HC0.mono ?_; rintro r w1 ⟨rfl, hb1⟩; have H1 : Hid (Below ((w.alloc (.cells #[.slice none 0 0, .slice none 0 0, .slice none 0 0, .bool false] 37)).alloc (.cells #[.int .i64 0, .int .i64 0] 31)).heap.size ((w.alloc (.cells #[.slice none 0 0, .slice none 0 0, .slice none 0 0, .bool false] 37)).alloc (.cells #[.int .i64 0, .int .i64 0] 31)) w1) := hb1; clear hb1 HC0)
  obtain ⟨Wn, hWn⟩ : ∃ Wn, w1.alloc (.cells #[.int .i64 0, .int .i64 0] 31) = Wn := ⟨_, rfl⟩
  rw [hWn]
  have hs1 : w.heap.size + 2 ≤ w1.heap.size := by have := H1.out.size; simp at this; omega
  have q6 : Wn.heap[w.heap.size]? = some (.cells #[.slice none 0 0, .slice none 0 0, .slice none 0 0, .bool false] 37 (0, 0)) := by
    rw [← hWn, (below_new w1 _).block _ (by omega), H1.out.block _ (by simp <;> omega), (below_new _ _).block _ (by simp <;> omega)]
    exact heap_alloc_new w _
  have q7 : Wn.heap[w.heap.size + 1]? = some (.cells #[.int .i64 0, .int .i64 0] 31 (0, 0)) := by
    rw [← hWn, (below_new w1 _).block _ (by omega), H1.out.block _ (by simp <;> omega)]
    have := heap_alloc_new (w.alloc (.cells #[.slice none 0 0, .slice none 0 0, .slice none 0 0, .bool false] 37)) (.cells #[.int .i64 0, .int .i64 0] 31)
    simpa using this
  have q8 : Wn.heap[w1.heap.size]? = some (.cells #[.int .i64 0, .int .i64 0] 31 (0, 0)) := by rw [← hWn]; exact heap_alloc_new _ _
  have HQ : Hid (Below w.heap.size w Wn ∧ Wn.heap[w.heap.size]? = some (.cells #[.slice none 0 0, .slice none 0 0, .slice none 0 0, .bool false] 37 (0, 0)) ∧ Wn.heap[w.heap.size + 1]? = some (.cells #[.int .i64 0, .int .i64 0] 31 (0, 0))) := by
    refine ⟨?_, q6, q7⟩
    rw [← hWn]
    exact below_seq (below_seq (below_seq (below_new _ _) (below_new _ _)) H1.out) (below_new _ _)
  obtain ⟨xc, xf, xl⟩ := cells_of (l := [_, _, _, _]) q6
  obtain ⟨yc, yf, yl⟩ := cells_of (l := [_, _]) q7
  obtain ⟨zc, -, zl⟩ := cells_of (l := [_, _]) q8
  have x0' := xc 0 _ rfl
  have x1' := xc 1 _ rfl
  have x2' := xc 2 _ rfl
  have x3' := xc 3 _ rfl
  have y0' := yc 0 _ rfl
  have y1' := yc 1 _ rfl
  have z0' := zc 0 _ rfl
  have z1' := zc 1 _ rfl
  have xf0 := xf 0
  have xf1 := xf 1
  have xf2 := xf 2
  have xf3 := xf 3
  have yf0 := yf 0
  have yf1 := yf 1
  have n1 : ¬ (w1.heap.size = w.heap.size) := by omega
  have n2 : ¬ (w1.heap.size = w.heap.size + 1) := by omega
  clear hWn H1 xc xf yc yf zc q6 q7 q8
  have p1 : (pr != 1) = true := by simp; omega
  have p2 : (pr != 2) = true := by simp; omega
  have p3 : (pr != 3) = true := by simp; omega
  go_wp2_with fail
  obtain ⟨s6, s7, sb⟩ := play_store2 (W5 := Wn) (s := w.heap.size) (.slice none 0 0) (.slice none 0 0) (.slice none 0 0) (.bool false) (.int .i64 6) (.int .i64 0) HQ.out.2.1 HQ.out.2.2
  refine bodyPost_ret (Play_ends s6 s7 rfl rfl) rfl ?_
  exact ⟨rfl, HQ.out.1.trans sb⟩
end Go.Proofs.Ytcmoehednkaehah
namespace Go.Proofs.Ytcmoehednkaehah
open Go.ChangeShapes Go.WideShapes Go.ChangeAt Go.RowKit

/-- The fault of a play. -/
def ftF (l : List Lj) (pr U : Int) : Int × Int :=
  if (chkLk l).1 ≠ 0 then chkLk l else if pr = 1 ∨ pr = 2 ∨ pr = 3 then (if U < 0 ∨ 20000 < U then (3, 0) else (0, 0)) else (6, 0)

/-- What a play answers. -/
structure An (l : List Lj) (pr U : Int) (runs en ws : List Int) (sk : Bool) (z1 z2 : Int) : Prop where
  z : (z1, z2) = ftF l pr U
  bad : z1 ≠ 0 → runs = [] ∧ en = [] ∧ ws = [] ∧ sk = false
  good : z1 = 0 → ∃ x, Rn pr l U.toNat runs x ∧ en = x.en ∧ ws = x.ws ∧ sk = stuckF U x.es x.en false
  ln : runs.length ≤ 20000 ∧ en.length ≤ 100 ∧ ws.length ≤ 100

theorem An.one {l js : List Lj} {pr U : Int} {runs en ws runs' en' ws' : List Int} {sk sk' : Bool} {z1 z2 y1 y2 : Int} (hc : js.map Lj.core = l.map Lj.core) (h : An l pr U runs en ws sk z1 z2) (h' : An js pr U runs' en' ws' sk' y1 y2) : runs = runs' ∧ en = en' ∧ ws = ws' ∧ sk = sk' ∧ z1 = y1 ∧ z2 = y2 := by
  have hz : (z1, z2) = (y1, y2) := by
    rw [h.z, h'.z]
    unfold ftF
    rw [chkLk_core hc]
  obtain ⟨rfl, rfl⟩ := Prod.mk.inj hz
  by_cases h0 : z1 = 0
  · obtain ⟨x, r1, rfl, rfl, rfl⟩ := h.good h0
    obtain ⟨x', r2, rfl, rfl, rfl⟩ := h'.good h0
    obtain ⟨e1, e2, e3, e4⟩ := Rn_core hc r2 r1
    exact ⟨e1.symm, e2.symm, e3.symm, (e4 _).symm, rfl, rfl⟩
  · obtain ⟨rfl, rfl, rfl, rfl⟩ := h.bad h0
    obtain ⟨rfl, rfl, rfl, rfl⟩ := h'.bad h0
    exact ⟨rfl, rfl, rfl, rfl, rfl, rfl⟩

theorem An.fault {l : List Lj} {pr U z1 z2 : Int} (h : (z1, z2) = ftF l pr U) (h0 : z1 ≠ 0) : An l pr U [] [] [] false z1 z2 :=
  ⟨h, fun _ => ⟨rfl, rfl, rfl, rfl⟩, fun e => absurd e h0, by simp⟩

structure RowsW (w w' : World) (rv ev tv : Value) (runs en ws : List Int) : Prop where
  bel : Below w.heap.size w w'
  r : RowSl nuV w' runs rv
  e : RowSl nuV w' en ev
  t : RowSl nuV w' ws tv

theorem RowsW.nil {w w' : World} (h : Below w.heap.size w w') : RowsW w w' (.slice none 0 0) (.slice none 0 0) (.slice none 0 0) [] [] [] := ⟨h, RowSl.nil _ _, RowSl.nil _ _, RowSl.nil _ _⟩

theorem Fr.nil (w w' : World) : Fr w w' (.slice none 0 0) (.slice none 0 0) (.slice none 0 0) :=
  ⟨none, none, none, .inl ⟨rfl, rfl⟩, .inl ⟨rfl, rfl⟩, .inl ⟨rfl, rfl⟩, (fun g e => by cases e), (fun g e => by cases e)⟩

/-- A play that answers. -/
def PlA (l : List Lj) (pr U : Int) (w : World) (r : Ending) (w' : World) : Prop :=
  ∃ rv ev tv runs en ws sk z1 z2, r = .returned (.tuple #[.agg #[rv, ev, tv, .bool sk], .agg #[.int .i64 z1, .int .i64 z2]]) ∧ An l pr U runs en ws sk z1 z2 ∧ RowsW w w' rv ev tv runs en ws

def PlF (l : List Lj) (pr U : Int) (w : World) (r : Ending) (w' : World) : Prop :=
  ∃ rv ev tv runs en ws sk z1 z2, r = .returned (.tuple #[.agg #[rv, ev, tv, .bool sk], .agg #[.int .i64 z1, .int .i64 z2]]) ∧ An l pr U runs en ws sk z1 z2 ∧ RowsW w w' rv ev tv runs en ws ∧ Fr w w' rv ev tv

theorem PlF.fault {l : List Lj} {pr U z1 z2 : Int} {w w' : World} {r : Ending} (hz : (z1, z2) = ftF l pr U) (h0 : z1 ≠ 0) (h : r = .returned (.tuple #[.agg #[.slice none 0 0, .slice none 0 0, .slice none 0 0, .bool false], .agg #[.int .i64 z1, .int .i64 z2]]) ∧ Below w.heap.size w w') : PlF l pr U w r w' :=
  ⟨_, _, _, _, _, _, _, _, _, h.1, An.fault hz h0, RowsW.nil h.2, Fr.nil _ _⟩

theorem PlA.fault {l : List Lj} {pr U z1 z2 : Int} {w w' : World} {r : Ending} (hz : (z1, z2) = ftF l pr U) (h0 : z1 ≠ 0) (h : r = .returned (.tuple #[.agg #[.slice none 0 0, .slice none 0 0, .slice none 0 0, .bool false], .agg #[.int .i64 z1, .int .i64 z2]]) ∧ Below w.heap.size w w') : PlA l pr U w r w' :=
  ⟨_, _, _, _, _, _, _, _, _, h.1, An.fault hz h0, RowsW.nil h.2⟩

theorem ft_bad {l : List Lj} (h : (chkLk l).1 ≠ 0) (pr U : Int) : ((chkLk l).1, (chkLk l).2) = ftF l pr U := by unfold ftF; rw [if_pos h]
theorem ft_proto {l : List Lj} (h : chkLk l = (0, 0)) {pr : Int} (hp : ¬ (pr = 1 ∨ pr = 2 ∨ pr = 3)) (U : Int) : ((6 : Int), (0 : Int)) = ftF l pr U := by unfold ftF; rw [h, if_neg (by simp), if_neg hp]
theorem ft_range {l : List Lj} (h : chkLk l = (0, 0)) {pr : Int} (hp : pr = 1 ∨ pr = 2 ∨ pr = 3) {U : Int} (hU : U < 0 ∨ 20000 < U) : ((3 : Int), (0 : Int)) = ftF l pr U := by unfold ftF; rw [h, if_neg (by simp), if_pos hp, if_pos hU]
theorem ft_good {l : List Lj} (h : chkLk l = (0, 0)) {pr : Int} (hp : pr = 1 ∨ pr = 2 ∨ pr = 3) {U : Int} (hU : ¬ (U < 0 ∨ 20000 < U)) : ((0 : Int), (0 : Int)) = ftF l pr U := by unfold ftF; rw [h, if_neg (by simp), if_pos hp, if_neg hU]

theorem An.of {l : List Lj} (h : chkLk l = (0, 0)) {pr : Int} (hp : pr = 1 ∨ pr = 2 ∨ pr = 3) {U : Nat} (hU : U ≤ 20000) {runs : List Int} {x : Rs} (hl : runs.length = U) (he : x.en.length = l.length ∧ x.ws.length = l.length) (hr : Rn pr l U runs x) : An l pr U runs x.en x.ws (stuckF U x.es x.en false) 0 0 := by
  have h1 := (chkLk_right (l := l) (by rw [h])).1
  exact ⟨ft_good h hp (by omega), fun e => absurd rfl e, fun _ => ⟨x, by simpa using hr, rfl, rfl, rfl⟩, by omega, by omega, by omega⟩

theorem Play_all (w : World) (l : List Lj) (v : Value) (hv : LkSl w l v) (pr U : Int) : Calls Try.prog 9 #[v, .int .i64 pr, .int .i64 U] w fun r w' => PlF l pr U w r w' := by
  by_cases h0 : (chkLk l).1 = 0
  · have e := chkLk_zero h0
    by_cases hp : pr = 1 ∨ pr = 2 ∨ pr = 3
    · by_cases hU : U < 0 ∨ 20000 < U
      · have hw : within U 0 20000 = false := by rcases hU with h | h <;> simp [within] <;> omega
        have hz := ft_range e hp hU
        rcases hp with rfl | rfl | rfl
        · exact (Play_range1 w l v hv e U hw).mono fun r w' h => PlF.fault hz (by decide) h
        · exact (Play_range2 w l v hv e U hw).mono fun r w' h => PlF.fault hz (by decide) h
        · exact (Play_range w l v hv e U hw).mono fun r w' h => PlF.fault hz (by decide) h
      · obtain ⟨n, rfl⟩ := Int.eq_ofNat_of_zero_le (show 0 ≤ U by omega)
        refine (Play_genF w l v hv e pr hp n (by omega)).mono ?_
        rintro r w' ⟨rv, ev, tv, runs, x, rfl, ⟨h1, h2⟩, h3, h4⟩
        exact ⟨rv, ev, tv, runs, x.en, x.ws, _, _, _, rfl, An.of e hp (by omega) h3 h1.ln h4, ⟨h1.bel, h1.r, h1.e, h1.t⟩, h2⟩
    · exact (Play_proto w l v hv e pr hp U).mono fun r w' h => PlF.fault (ft_proto e hp U) (by decide) h
  · exact (Play_badP w l v hv h0 pr U).mono fun r w' h => PlF.fault (ft_bad h0 pr U) h0 h

theorem PlayDoc_all (w : World) (l : List Lj) (v : Value) (hv : LkSl w l v) (pr U : Int) : Calls Try.prog 8 #[v, .int .i64 pr, .int .i64 U] w fun r w' => PlA l pr U w r w' := by
  by_cases h0 : (chkLk l).1 = 0
  · have e := chkLk_zero h0
    by_cases hp : pr = 1 ∨ pr = 2 ∨ pr = 3
    · by_cases hU : U < 0
      · exact (PlayDoc_range1 w l v hv e pr hp U hU).mono fun r w' h => PlA.fault (ft_range e hp (.inl hU)) (by decide) h
      · by_cases hU2 : 20000 < U
        · exact (PlayDoc_range2 w l v hv e pr hp U hU hU2).mono fun r w' h => PlA.fault (ft_range e hp (.inr hU2)) (by decide) h
        · obtain ⟨n, rfl⟩ := Int.eq_ofNat_of_zero_le (show 0 ≤ U by omega)
          refine (PlayDoc_good w l v hv e pr hp n (by omega)).mono ?_
          rintro r w' ⟨rv, ev, tv, runs, x, rfl, h1, h3, h4⟩
          exact ⟨rv, ev, tv, runs, x.en, x.ws, _, _, _, rfl, An.of e hp (by omega) h3 h1.ln h4, ⟨h1.bel, h1.r, h1.e, h1.t⟩⟩
    · by_cases h1 : pr < 1
      · exact (PlayDoc_proto1 w l v hv e pr h1 U).mono fun r w' h => PlA.fault (ft_proto e hp U) (by decide) h
      · exact (PlayDoc_proto2 w l v hv e pr h1 (by omega) U).mono fun r w' h => PlA.fault (ft_proto e hp U) (by decide) h
  · exact (PlayDoc_bad w l v hv h0 pr U).mono fun r w' h => PlA.fault (ft_bad h0 pr U) h0 h
end Go.Proofs.Ytcmoehednkaehah
namespace Go.Proofs.Ytcmoehednkaehah
open Go.ChangeShapes Go.WideShapes Go.ChangeAt Go.RowKit

set_option maxRecDepth 20000 in
set_option maxHeartbeats 4000000 in
theorem SameA_quiet (w : World) (l : List Ac) (v v' : Value) (hl : l.length ≤ 9000000000000000000) (h : RowSl Ac.vals w l v) (h' : RowSl Ac.vals w l v') :
    Calls Try.prog 24 #[v, v'] w fun r w' => r = .returned (.bool true) ∧ ∃ n, w' = w.drewN n := by
  obtain ⟨ad, c, rfl, -, -, hc⟩ := h
  obtain ⟨ad', c', rfl, -, -, hc'⟩ := h'
  have HR : Hid (_ ∧ _) := ⟨hc, hc'⟩
  clear hc hc'
  go_enter Try.func24, Try.ntmps24
  go_wp2_with fail
  go_loopw [13] (fun x wr => ∃ j : Nat, j ≤ l.length ∧ x = .int .i64 j ∧ ∃ n, wr = w.drewN n) (fun x _ => l.length - (intOf x).toNat)
  case atStart => exact ⟨0, Nat.zero_le _, rfl, 0, rfl⟩
  case round =>
    obtain ⟨j, hj, rfl, n0, rfl⟩ := hrel
    by_cases hlt : j < l.length
    · obtain ⟨x, hx, -⟩ := drop_at hlt
      rcases HR.out.1 with h | ⟨b1, o1, rfl, hrow1⟩
      · rw [h] at hlt; simp at hlt
      rcases HR.out.2 with h | ⟨b2, o2, rfl, hrow2⟩
      · rw [h] at hlt; simp at hlt
      obtain ⟨c0, c1⟩ := ac_at hrow1 hx
      obtain ⟨d0, d1⟩ := ac_at hrow2 hx
      have hji : (j : Int) < (l.length : Int) := by omega
      clear hrow1 hrow2 hx
      obtain ⟨xd, xn⟩ := x
      dsimp only at c0 c1 d0 d1
      go_wp2_with fail
      go_quiet (fail)
      go_wp2_with fail
      go_roundw
      case rel => exact ⟨j + 1, by omega, by go_num, n0 + nq, rfl⟩
      case measure => simp [intOf]; omega
    · have hje : j = l.length := by omega
      subst hje
      go_wp2_with fail
      go_ret
      exact ⟨rfl, n0, rfl⟩

set_option maxRecDepth 20000 in
set_option maxHeartbeats 4000000 in
/-- punctualsame.SameActs, of the same jobs. -/
theorem SameActs_any (w : World) (js l : List Lj) (v v' : Value) (hl : l.length ≤ 5000) (hs : ∀ x ∈ l, x.acts.length ≤ 9000000000000000000) (he : js.map Lj.core = l.map Lj.core) (hv : LkSl w js v) (hv' : LkSl w l v') :
    Calls Try.prog 11 #[v, v'] w fun r w' => r = .returned (.bool true) ∧ Below w.heap.size w w' := by
  have hlen : js.length = l.length := by simpa using congrArg List.length he
  obtain ⟨⟨ad, c, rfl, -, hcap, hrow⟩, hacts⟩ := hv
  obtain ⟨⟨ad', c', rfl, -, hcap', hrow'⟩, hacts'⟩ := hv'
  have HE : Hid (js.map Lj.core = l.map Lj.core ∧ js.length = l.length ∧ ∀ x ∈ l, x.acts.length ≤ 9000000000000000000) := ⟨he, hlen, hs⟩
  rw [hlen] at hcap ⊢
  have HR : Hid ((∀ W, Below w.heap.size w W → (js = [] ∨ ∃ b o, ad = some ⟨b, o, none⟩ ∧ ∀ q u, (js.flatMap Lj.vals)[q]? = some u → W.cell? ⟨b, o + q, none⟩ = some u)) ∧ (∀ W, Below w.heap.size w W → (l = [] ∨ ∃ b o, ad' = some ⟨b, o, none⟩ ∧ ∀ q u, (l.flatMap Lj.vals)[q]? = some u → W.cell? ⟨b, o + q, none⟩ = some u)) ∧ (∀ x ∈ js, RowSl Ac.vals w x.acts x.v) ∧ (∀ x ∈ l, RowSl Ac.vals w x.acts x.v)) := ⟨fun W hb => hrow.imp id (fun ⟨b, o, e, h⟩ => ⟨b, o, e, fun q u hq => below_cell hb (h q u hq)⟩), fun W hb => hrow'.imp id (fun ⟨b, o, e, h⟩ => ⟨b, o, e, fun q u hq => below_cell hb (h q u hq)⟩), hacts, hacts'⟩
  clear hrow hacts hrow' hacts' hlen he hs
  go_enter Try.func11, Try.ntmps11
  go_wp2_with fail
  go_loopw [13] (fun i wr => ∃ j : Nat, j ≤ l.length ∧ i = .int .i64 j ∧ Below w.heap.size w wr) (fun i _ => l.length - (intOf i).toNat)
  case atStart => exact ⟨0, Nat.zero_le _, rfl, Below.refl _ _⟩
  case round =>
    obtain ⟨j, hj, rfl, hb⟩ := hrel
    have HB : Hid (Below w.heap.size w wr) := hb
    by_cases hlt : j < l.length
    · obtain ⟨y, hy, -⟩ := drop_at hlt
      obtain ⟨x, hx, -⟩ := drop_at (l := js) (k := j) (by rw [HE.out.2.1]; exact hlt)
      have hxy : x.core = y.core := by
        have := congrArg (fun q => q[j]?) HE.out.1
        simpa [hx, hy] using this
      rcases HR.out.1 wr hb with h | ⟨b, o, rfl, hrow⟩
      · have := HE.out.2.1; rw [h] at this; simp at this; omega
      rcases HR.out.2.1 wr hb with h | ⟨b', o', rfl, hrow'⟩
      · rw [h] at hlt; simp at hlt
      have hax := (HR.out.2.2.1 x (List.mem_of_getElem? hx)).below hb
      have hay := (HR.out.2.2.2 y (List.mem_of_getElem? hy)).below hb
      have hsz := HE.out.2.2 y (List.mem_of_getElem? hy)
      have hX := lj_at hrow hx
      have hY := lj_at hrow' hy
      obtain ⟨xa, xp, xacts, xv⟩ := x
      obtain ⟨ya, yp, yacts, yv⟩ := y
      simp only [Lj.core, Prod.mk.injEq] at hxy
      obtain ⟨rfl, rfl, rfl⟩ := hxy
      dsimp only at hax hay hsz
      obtain ⟨xad, xc, rfl⟩ := hax.len
      obtain ⟨yad, yc, rfl⟩ := hay.len
      obtain ⟨c0, c1, c2⟩ := hX
      obtain ⟨d0, d1, d2⟩ := hY
      dsimp only at c0 c1 c2 d0 d1 d2
      have hji : (j : Int) < (l.length : Int) := by omega
      have HS : Hid (RowSl Ac.vals wr xacts (.slice xad xacts.length xc) ∧ RowSl Ac.vals wr xacts (.slice yad xacts.length yc) ∧ xacts.length ≤ 9000000000000000000) := ⟨hax, hay, hsz⟩
      clear hrow hrow' hx hy hax hay hsz hb
      go_wp2_with fail
      go_quiet (first | (go_at_call 24; exact Calls.quiet_of (SameA_quiet _ xacts _ _ HS.out.2.2 (HS.out.1.below below_drewN') (HS.out.2.1.below below_drewN'))))
      go_wp2_with fail
      go_roundw
      case rel => exact ⟨j + 1, by omega, by go_num, below_seq HB.out (below_drewN' (n := nq))⟩
      case measure => simp [intOf]; omega
    · have hje : j = l.length := by omega
      subst hje
      clear hb
      go_wp2_with fail
      go_ret
      exact ⟨rfl, HB.out⟩
end Go.Proofs.Ytcmoehednkaehah
namespace Go.Proofs.Ytcmoehednkaehah
open Go.ChangeShapes Go.WideShapes Go.ChangeAt Go.RowKit

/-- What the law holds to the end. -/
structure LL (w W : World) (l js : List Lj) (v u : Value) (G : Nat) (runs en ws : List Int) (rv ev tv : Value) (sk : Bool) (z1 z2 : Int) : Prop where
  bel : Below w.heap.size w W
  lv : LkSl W l v
  ju : LkSl W js u
  c1 : W.heap[G]? = some (.cells [rv, ev, tv, .bool sk].toArray 28 (0, 0))
  c2 : W.heap[G + 1]? = some (.cells [.int .i64 z1, .int .i64 z2].toArray 31 (0, 0))
  r : RowSl nuV W runs rv
  e : RowSl nuV W en ev
  t : RowSl nuV W ws tv

theorem LL.grow {w W W' : World} {l js : List Lj} {v u : Value} {G : Nat} {runs en ws : List Int} {rv ev tv : Value} {sk : Bool} {z1 z2 : Int} (h : LL w W l js v u G runs en ws rv ev tv sk z1 z2) (hb : Below W.heap.size W W') : LL w W' l js v u G runs en ws rv ev tv sk z1 z2 :=
  ⟨below_seq h.bel hb, h.lv.below hb, h.ju.below hb, (hb.block _ (heap_lt h.c1)).trans h.c1, (hb.block _ (heap_lt h.c2)).trans h.c2, h.r.below hb, h.e.below hb, h.t.below hb⟩

/-- What a round holds. -/
structure RD (wr W : World) (D : Nat) (rv ev tv : Value) (sk : Bool) (z1 z2 : Int) (runs en ws : List Int) (o1 o2 o3 : Option Nat) : Prop where
  bel : Below wr.heap.size wr W
  c1 : W.heap[D]? = some (.cells [rv, ev, tv, .bool sk].toArray 37 (0, 0))
  c2 : W.heap[D + 1]? = some (.cells [.int .i64 z1, .int .i64 z2].toArray 31 (0, 0))
  s1 : Sp W wr.heap.size rv o1
  s2 : Sp W wr.heap.size ev o2
  s3 : Sp W wr.heap.size tv o3
  ne : (∀ g, o1 = some g → o2 ≠ some g ∧ o3 ≠ some g) ∧ ∀ g, o2 = some g → o3 ≠ some g
  nd : o1 ≠ some D ∧ o2 ≠ some D ∧ o3 ≠ some D
  r : RowSl nuV W runs rv
  e : RowSl nuV W en ev
  t : RowSl nuV W ws tv

theorem RD.grow {wr W W' : World} {D : Nat} {rv ev tv : Value} {sk : Bool} {z1 z2 : Int} {runs en ws : List Int} {o1 o2 o3 : Option Nat} (h : RD wr W D rv ev tv sk z1 z2 runs en ws o1 o2 o3) (hb : Below W.heap.size W W') : RD wr W' D rv ev tv sk z1 z2 runs en ws o1 o2 o3 :=
  ⟨below_seq h.bel hb, (hb.block _ (heap_lt h.c1)).trans h.c1, (hb.block _ (heap_lt h.c2)).trans h.c2, h.s1.keep (fun _ e => hb.block _ (h.s1.low e).2), h.s2.keep (fun _ e => hb.block _ (h.s2.low e).2), h.s3.keep (fun _ e => hb.block _ (h.s3.low e).2), h.ne, h.nd, h.r.below hb, h.e.below hb, h.t.below hb⟩

theorem RD.start {wr w6 W : World} {rv ev tv : Value} {sk : Bool} {z1 z2 : Int} {runs en ws : List Int} (h : RowsW wr w6 rv ev tv runs en ws) (hf : Fr wr w6 rv ev tv) (hb : Below w6.heap.size w6 W) (h1 : W.heap[w6.heap.size]? = some (.cells [rv, ev, tv, .bool sk].toArray 37 (0, 0))) (h2 : W.heap[w6.heap.size + 1]? = some (.cells [.int .i64 z1, .int .i64 z2].toArray 31 (0, 0))) : ∃ o1 o2 o3, RD wr W w6.heap.size rv ev tv sk z1 z2 runs en ws o1 o2 o3 := by
  obtain ⟨o1, o2, o3, s1, s2, s3, n1, n2⟩ := hf
  refine ⟨o1, o2, o3, below_seq h.bel hb, h1, h2, s1.keep (fun _ e => hb.block _ (s1.low e).2), s2.keep (fun _ e => hb.block _ (s2.low e).2), s3.keep (fun _ e => hb.block _ (s3.low e).2), ⟨n1, n2⟩, ⟨fun e => ?_, fun e => ?_, fun e => ?_⟩, h.r.below hb, h.e.below hb, h.t.below hb⟩
  · exact Nat.lt_irrefl _ (s1.low e).2
  · exact Nat.lt_irrefl _ (s2.low e).2
  · exact Nat.lt_irrefl _ (s3.low e).2

/-- Behind a Spoil. -/
structure RE (wr W : World) (D : Nat) (rv ev tv : Value) (sk : Bool) (o2 o3 : Option Nat) : Prop where
  bel : Below wr.heap.size wr W
  c1 : W.heap[D]? = some (.cells [rv, ev, tv, .bool sk].toArray 37 (0, 0))
  s2 : Sp W wr.heap.size ev o2
  s3 : Sp W wr.heap.size tv o3
  ne : ∀ g, o2 = some g → o3 ≠ some g
  nd : o2 ≠ some D ∧ o3 ≠ some D

theorem RD.spoil {wr W W' : World} {D : Nat} {rv ev tv : Value} {sk : Bool} {z1 z2 : Int} {runs en ws : List Int} {o1 o2 o3 : Option Nat} (h : RD wr W D rv ev tv sk z1 z2 runs en ws o1 o2 o3) (hb : OneOf wr.heap.size W W' o1) : RE wr W' D rv ev tv sk o2 o3 :=
  ⟨h.bel.trans hb.1, (hb.2 _ h.nd.1).trans h.c1, h.s2.keep (fun g e => hb.2 _ (fun e1 => (h.ne.1 g e1).1 e)), h.s3.keep (fun g e => hb.2 _ (fun e1 => (h.ne.1 g e1).2 e)), h.ne.2, h.nd.2⟩

/-- Behind two. -/
structure RF (wr W : World) (D : Nat) (rv ev tv : Value) (sk : Bool) (o3 : Option Nat) : Prop where
  bel : Below wr.heap.size wr W
  c1 : W.heap[D]? = some (.cells [rv, ev, tv, .bool sk].toArray 37 (0, 0))
  s3 : Sp W wr.heap.size tv o3

theorem RE.spoil {wr W W' : World} {D : Nat} {rv ev tv : Value} {sk : Bool} {o2 o3 : Option Nat} (h : RE wr W D rv ev tv sk o2 o3) (hb : OneOf wr.heap.size W W' o2) : RF wr W' D rv ev tv sk o3 :=
  ⟨h.bel.trans hb.1, (hb.2 _ h.nd.1).trans h.c1, h.s3.keep (fun g e => hb.2 _ (fun e1 => h.ne g e1 e))⟩

theorem RF.spoil {wr W W' : World} {D : Nat} {rv ev tv : Value} {sk : Bool} {o3 : Option Nat} (h : RF wr W D rv ev tv sk o3) (hb : OneOf wr.heap.size W W' o3) : Below wr.heap.size wr W' := h.bel.trans hb.1

theorem RD.see {wr W : World} {D : Nat} {rv ev tv : Value} {sk : Bool} {z1 z2 : Int} {runs en ws : List Int} {o1 o2 o3 : Option Nat} (h : RD wr W D rv ev tv sk z1 z2 runs en ws o1 o2 o3) : (W.cell? ⟨D, 0, none⟩ = some rv ∧ W.cell? ⟨D, 1, none⟩ = some ev ∧ W.cell? ⟨D, 2, none⟩ = some tv ∧ W.cell? ⟨D, 3, none⟩ = some (.bool sk)) ∧ W.cell? ⟨D + 1, 0, none⟩ = some (.int .i64 z1) ∧ W.cell? ⟨D + 1, 1, none⟩ = some (.int .i64 z2) :=
  ⟨⟨(cells_of h.c1).1 0 _ rfl, (cells_of h.c1).1 1 _ rfl, (cells_of h.c1).1 2 _ rfl, (cells_of h.c1).1 3 _ rfl⟩, (cells_of h.c2).1 0 _ rfl, (cells_of h.c2).1 1 _ rfl⟩

theorem LL.see {w W : World} {l js : List Lj} {v u : Value} {G : Nat} {runs en ws : List Int} {rv ev tv : Value} {sk : Bool} {z1 z2 : Int} (h : LL w W l js v u G runs en ws rv ev tv sk z1 z2) : (W.cell? ⟨G, 0, none⟩ = some rv ∧ W.cell? ⟨G, 1, none⟩ = some ev ∧ W.cell? ⟨G, 2, none⟩ = some tv ∧ W.cell? ⟨G, 3, none⟩ = some (.bool sk)) ∧ W.cell? ⟨G + 1, 0, none⟩ = some (.int .i64 z1) ∧ W.cell? ⟨G + 1, 1, none⟩ = some (.int .i64 z2) :=
  ⟨⟨(cells_of h.c1).1 0 _ rfl, (cells_of h.c1).1 1 _ rfl, (cells_of h.c1).1 2 _ rfl, (cells_of h.c1).1 3 _ rfl⟩, (cells_of h.c2).1 0 _ rfl, (cells_of h.c2).1 1 _ rfl⟩

end Go.Proofs.Ytcmoehednkaehah
