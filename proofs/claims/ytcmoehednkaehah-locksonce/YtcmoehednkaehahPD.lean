import Derived.Test.YtcmoehednkaehahPC
import Derived.Test.YtcmoehednkaehahLS
namespace Go.Proofs.Ytcmoehednkaehah
open Go.ChangeShapes Go.WideShapes Go.ChangeAt Go.RowKit

/-- What the statement looks at. -/
structure SeeW (W0 W : World) (g : Nat) (rv ev tv : Value) (runs en ws : List Int) : Prop where
  bel : Below W0.heap.size W0 W
  h : W.heap[g]? = some (.cells #[rv, ev, tv, .bool false] 37 (0, 0))
  r : RowSl nuV W runs rv
  e : RowSl nuV W en ev
  t : RowSl nuV W ws tv

theorem SeeW.grow {W0 W W' : World} {g : Nat} {rv ev tv : Value} {runs en ws : List Int} (h : SeeW W0 W g rv ev tv runs en ws) (hb : Below W.heap.size W W') : SeeW W0 W' g rv ev tv runs en ws :=
  ⟨below_seq h.bel hb, (hb.block _ (heap_lt h.h)).trans h.h, h.r.below hb, h.e.below hb, h.t.below hb⟩

theorem row_cell {W : World} {l : List Int} {v : Value} (h : RowSl nuV W l v) {i : Nat} {z : Int} (hi : l[i]? = some z) : ∃ b o c, v = .slice (some ⟨b, o, none⟩) l.length c ∧ W.cell? ⟨b, o + i, none⟩ = some (.int .i64 z) ∧ b < W.heap.size := by
  obtain ⟨ad, c, rfl, -, -, hr⟩ := h
  rcases hr with h0 | ⟨b, o, rfl, hr⟩
  · subst h0; simp at hi
  · have := nu_at hr hi
    exact ⟨b, o, c, rfl, this, World.block_lt_of_cell? _ _ this⟩

theorem row_len {W : World} {l : List Int} {v : Value} (h : RowSl nuV W l v) {n : Nat} (hn : l.length = n) : ∃ ad c, v = .slice ad n c := by
  subst hn
  exact h.len

theorem SeeW.cells {W0 W : World} {g : Nat} {rv ev tv : Value} {runs en ws : List Int} (h : SeeW W0 W g rv ev tv runs en ws) : W.cell? ⟨g, 0, none⟩ = some rv ∧ W.cell? ⟨g, 1, none⟩ = some ev ∧ W.cell? ⟨g, 2, none⟩ = some tv ∧ W.cell? ⟨g, 3, none⟩ = some (.bool false) ∧ g < W.heap.size := by
  obtain ⟨a, -, l1⟩ := cells_of (l := [_, _, _, _]) h.h
  exact ⟨a 0 _ rfl, a 1 _ rfl, a 2 _ rfl, a 3 _ rfl, l1⟩

theorem row_cell' {W : World} {l : List Int} {ad : Option Addr} {n c : Nat} (h : RowSl nuV W l (.slice ad n c)) {i : Nat} {z : Int} (hi : l[i]? = some z) : ∃ b o, ad = some ⟨b, o, none⟩ ∧ W.cell? ⟨b, o + i, none⟩ = some (.int .i64 z) ∧ b < W.heap.size := by
  obtain ⟨b, o, c', e, h1, h2⟩ := row_cell h hi
  cases e
  exact ⟨b, o, rfl, h1, h2⟩

/-- What the statement asks, of the jobs that were handed in. -/
theorem once_says {l js : List Lj} (hc : js.map Lj.core = l.map Lj.core) {U : Nat} {runs : List Int} {x : Rs} (g : G js U runs (nrm x)) (h0 : ∀ y ∈ l, 0 ≤ y.a) :
    x.ws = List.replicate l.length 0 ∧ ∀ (k : Nat) (y : Lj) (ez : Int), l[k]? = some y → x.en[k]? = some ez → (ez = -1 ∨ (0 ≤ ez ∧ ez ≤ U)) ∧ heldF l runs y.p y.a.toNat (if ez < 0 then U else ez.toNat) ≤ mostF y.p l := by
  have hl : js.length = l.length := by simpa using congrArg List.length hc
  refine ⟨by have := g.ws; rw [hl] at this; exact this, fun k y ez hk hz => ?_⟩
  obtain ⟨y', hy', e1, e2, -⟩ := core_at hc hk
  have := g.last hy' (show (nrm x).en[k]? = some ez from hz) (by rw [e1]; exact h0 y (List.mem_of_getElem? hk))
  rw [e1, e2, heldF_core hc, mostF_core _ _ _ hc] at this
  exact this

theorem hc_in (l : List Lj) (p r : Int) : 0 ≤ hc l p r ∧ hc l p r ≤ 1 := by
  unfold hc
  split
  · split
    · split <;> omega
    · omega
  · omega

theorem sum_in (l : List Lj) (p : Int) : ∀ s : List Int, 0 ≤ (s.map (hc l p)).sum ∧ (s.map (hc l p)).sum ≤ (s.length : Int)
  | [] => by simp
  | r :: s => by
    have h1 := sum_in l p s
    have h2 := hc_in l p r
    simp only [List.map_cons, List.sum_cons, List.length_cons]
    omega

theorem held_in (l : List Lj) (runs : List Int) (p : Int) (a e : Nat) : 0 ≤ heldF l runs p a e ∧ heldF l runs p a e ≤ (e : Int) := by
  have h := sum_in l p ((runs.take e).drop a)
  have hl : ((runs.take e).drop a).length ≤ e := by simp; omega
  unfold heldF
  omega

theorem hc_neg {l : List Lj} {p r : Int} (h : ¬ 0 ≤ r) : hc l p r = 0 := by unfold hc; rw [if_neg h]
theorem hc_none {l : List Lj} {p : Int} {m : Nat} (h : l.length ≤ m) : hc l p (m : Int) = 0 := by
  unfold hc
  rw [if_pos (by omega), Int.toNat_natCast, List.getElem?_eq_none h]
theorem hc_some {l : List Lj} {p : Int} {m : Nat} {z : Lj} (h : l[m]? = some z) : hc l p (m : Int) = if z.p < p then 1 else 0 := by
  unfold hc
  rw [if_pos (by omega), Int.toNat_natCast, h]

set_option maxRecDepth 20000 in
set_option maxHeartbeats 8000000 in
theorem LocksOnce_good (w : World) (l : List Lj) (v : Value) (hv : LkSl w l v) (hs : ∀ x ∈ l, x.acts.length * 16 ≤ 140737488355328) (hok : chkLk l = (0, 0)) (U : Nat) (hU : U ≤ 3000) :
    Calls Try.prog 4 #[v, .int .i64 (U : Int)] w fun r w' => r = .returned (.bool true) ∧ Below w.heap.size w w' := by
  obtain ⟨ad, cp, hve⟩ := hv.1.len
  subst hve
  have hck := chkLk_right (l := l) (by rw [hok])
  have hn : l.length ≤ 100 := hck.1
  have hfew : decide ((l.length : Int) ≤ 5000) = true := by simp; omega
  have hU1 : ¬ ((3000 : Int) < (U : Int)) := by omega
  have hU0 : ¬ ((U : Int) < 0) := by omega
  have hsay : ∀ y ∈ l, 0 ≤ y.a := fun y hy => (by have h9 := (hck.2 y hy).2.1; simp [within] at h9; omega)
  have HV : Hid (LkSl w l (.slice ad l.length cp) ∧ (∀ x ∈ l, x.acts.length * 16 ≤ 140737488355328) ∧ (∀ x ∈ l, chkActs x.acts = (0, 0) ∧ within x.a 0 20000 = true ∧ within x.p 0 1000 = true) ∧ chkLk l = (0, 0)) := ⟨hv, hs, hck.2, hok⟩
  clear hv hs hck hok
  go_enter Try.func4, Try.ntmps4
  go_wp2_with (go_at_call 5; refine (locked_any _).mono ?_; rintro r w1 ⟨rfl, hb⟩; have H1 : Hid (Below w.heap.size w w1) := hb; clear hb)
  go_wp2_with (go_at_call 6; refine (few_any _ _).mono ?_; rintro r w2 ⟨rfl, rfl⟩; rw [hfew])
  go_wp2_with (go_at_call 7; refine (Acts_any _ l (.slice ad l.length cp) (by omega) HV.out.2.1 (HV.out.1.below H1.out)).mono ?_; rintro r w3 ⟨u, js, rfl, hcore, hjs, hb, -, -⟩; have H3 : Hid (Below w.heap.size w w3 ∧ js.map Lj.core = l.map Lj.core ∧ LkSl w3 js u ∧ chkLk js = (0, 0)) := ⟨below_seq H1.out hb, hcore, hjs, (chkLk_core hcore).trans HV.out.2.2.2⟩; clear hcore hjs hb)
  go_wp2_with (go_at_call 9; refine (Play_once _ js u H3.out.2.2.1 H3.out.2.2.2 U (by omega)).mono ?_; rintro r w4 ⟨rv, ev, tv, runs, x, rfl, hp, hrl, hg⟩; obtain ⟨hws, hall⟩ := once_says H3.out.2.1 hg hsay; have hjl : js.length = l.length := (by have := congrArg List.length H3.out.2.1; simpa using this); obtain ⟨hp1, hp2, hp3, hp4, hp5, hp6⟩ := hp; generalize hen : x.en = en at *; generalize hwsx : x.ws = ws at *; obtain ⟨a1, c1, rfl⟩ := row_len hp2 hrl; obtain ⟨a2, c2, rfl⟩ := row_len hp3 (hp5.trans hjl); obtain ⟨a3, c3, rfl⟩ := row_len hp4 (hp6.trans hjl); have H4 : Hid (Below w.heap.size w w4 ∧ RowSl nuV w4 runs (.slice a1 U c1) ∧ RowSl nuV w4 en (.slice a2 l.length c2) ∧ RowSl nuV w4 ws (.slice a3 l.length c3)) := ⟨below_seq H3.out.1 hp1, hp2, hp3, hp4⟩; have HG : Hid (runs.length = U ∧ en.length = l.length ∧ ws = List.replicate l.length 0 ∧ ∀ (k : Nat) (y : Lj) (ez : Int), l[k]? = some y → en[k]? = some ez → (ez = -1 ∨ (0 ≤ ez ∧ ez ≤ U)) ∧ heldF l runs y.p y.a.toNat (if ez < 0 then U else ez.toNat) ≤ mostF y.p l) := ⟨hrl, hp5.trans hjl, hws, hall⟩; clear hp1 hp2 hp3 hp4 hp5 hp6 hrl hg hjl hws hall hen hwsx H3 H1 hsay)
  have HS : Hid (SeeW w ((w4.alloc (.cells #[.slice a1 U c1, .slice a2 l.length c2, .slice a3 l.length c3, .bool false] 37)).alloc (.cells #[.int .i64 0, .int .i64 0] 31)) w4.heap.size (.slice a1 U c1) (.slice a2 l.length c2) (.slice a3 l.length c3) runs en ws) := by
    have b1 := below_new w4 (.cells #[.slice a1 U c1, .slice a2 l.length c2, .slice a3 l.length c3, .bool false] 37)
    have b2 := below_new (w4.alloc (.cells #[.slice a1 U c1, .slice a2 l.length c2, .slice a3 l.length c3, .bool false] 37)) (.cells #[.int .i64 0, .int .i64 0] 31)
    have b3 := below_seq b1 b2
    exact ⟨below_seq H4.out.1 b3, (b2.block _ (by simp)).trans (heap_alloc_new _ _), H4.out.2.1.below b3, H4.out.2.2.1.below b3, H4.out.2.2.2.below b3⟩
  clear H4
  go_loopw [83] (fun i wr => ∃ k : Nat, k ≤ l.length ∧ i = .int .i64 k ∧ SeeW w wr w4.heap.size (.slice a1 U c1) (.slice a2 l.length c2) (.slice a3 l.length c3) runs en ws) (fun i _ => l.length - (intOf i).toNat)
  case atStart => exact ⟨0, Nat.zero_le _, rfl, HS.out⟩
  case round =>
    obtain ⟨k, hk, rfl, hse⟩ := hrel
    by_cases hlt : k < l.length
    · obtain ⟨y, hy, -⟩ := drop_at hlt
      obtain ⟨ez, hez⟩ : ∃ ez, en[k]? = some ez := ⟨_, List.getElem?_eq_getElem (by rw [HG.out.2.1]; exact hlt)⟩
      have hsay := HG.out.2.2.2 k y ez hy hez
      have HJ : Hid (∀ W, Below w.heap.size w W → ∀ (m : Nat) (z : Lj), l[m]? = some z → ∃ b o, ad = some ⟨b, o, none⟩ ∧ b < W.heap.size ∧ W.cell? ⟨b, o + m * 3, none⟩ = some (.int .i64 z.a) ∧ W.cell? ⟨b, o + m * 3 + 1, none⟩ = some (.int .i64 z.p) ∧ W.cell? ⟨b, o + m * 3 + 2, none⟩ = some z.v ∧ RowSl Ac.vals W z.acts z.v) := fun W hb m z hz => by
        have hvw := HV.out.1.below hb
        obtain ⟨⟨ad', cp', e, -, -, hr⟩, hra⟩ := hvw
        cases e
        rcases hr with h | ⟨b, o, rfl, hrow⟩
        · rw [h] at hz; simp at hz
        have ha := lj_at hrow hz
        exact ⟨b, o, rfl, World.block_lt_of_cell? _ _ ha.1, ha.1, ha.2.1, ha.2.2, hra z (List.mem_of_getElem? hz)⟩
      obtain ⟨b, o, rfl, lb, c0, c1', c2', hac⟩ := HJ.out wr hse.bel k y hy
      have hya : 0 ≤ y.a ∧ y.a ≤ 20000 := (by have h9 := (HV.out.2.2.1 y (List.mem_of_getElem? hy)).2.1; simp [within] at h9; omega)
      obtain ⟨ya, yp, yacts, yv⟩ := y
      dsimp only at hac c0 c1' c2' hsay hya
      obtain ⟨aad, ac, rfl⟩ := hac.len
      obtain ⟨an, rfl⟩ := Int.eq_ofNat_of_zero_le hya.1
      rw [Int.toNat_natCast] at hsay
      have hki : (k : Int) < (l.length : Int) := by omega
      obtain ⟨wo, hwo⟩ : ∃ wo, wo = wr := ⟨_, rfl⟩
      subst hwo
      have HB : Hid (SeeW w (wo.alloc (.cells #[.int .i64 (an : Int), .int .i64 yp, .slice aad yacts.length ac] 47)) w4.heap.size (.slice a1 U c1) (.slice a2 l.length c2) (.slice a3 l.length c3) runs en ws ∧ en[k]? = some ez ∧ (ez = -1 ∨ (0 ≤ ez ∧ ez ≤ U)) ∧ heldF l runs yp an (if ez < 0 then U else ez.toNat) ≤ mostF yp l) := ⟨hse.grow (below_new _ _), hez, hsay⟩
      clear hse hac hy hez hsay
      go_wp2_with fail
      go_loopw [9, 90] (fun v9 i wl => ∃ (m : Nat) (z : Int), m ≤ l.length ∧ i = .int .i64 m ∧ v9 = .int .i64 z ∧ SeeW w wl w4.heap.size (.slice a1 U c1) (.slice a2 l.length c2) (.slice a3 l.length c3) runs en ws ∧ wl.heap[wo.heap.size]? = some (.cells #[.int .i64 (an : Int), .int .i64 yp, .slice aad yacts.length ac] 47 (0, 0)) ∧ 0 ≤ z ∧ max z (mostF yp (l.drop m)) = mostF yp l) (fun _ i _ => l.length - (intOf i).toNat)
      case atStart => exact ⟨0, 0, Nat.zero_le _, rfl, rfl, HB.out.1, heap_alloc_new _ _, Int.le_refl _, by have := mostF_nonneg yp l; rw [List.drop_zero]; omega⟩
      case round =>
        obtain ⟨m, z, hm, rfl, rfl, hse, hjb, hz0, hmx⟩ := hrel
        obtain ⟨jc, jf, jl⟩ := cells_of (l := [_, _, _]) hjb
        have jc0 := jc 0 _ rfl
        have jc1 := jc 1 _ rfl
        by_cases hml : m < l.length
        · obtain ⟨q, hq, -⟩ := drop_at hml
          obtain ⟨b', o', e', lq, d0, d1, d2, hqa⟩ := HJ.out wr hse.bel m q hq
          cases e'
          have hqs := HV.out.2.1 q (List.mem_of_getElem? hq)
          have hqc := (HV.out.2.2.1 q (List.mem_of_getElem? hq)).1
          rw [mostF_drop hq] at hmx
          obtain ⟨qa, qp, qacts, qv⟩ := q
          dsimp only at hqa d0 d1 d2 hqs hqc hmx
          obtain ⟨qad, qc, rfl⟩ := hqa.len
          have hmi : (m : Int) < (l.length : Int) := by omega
          have hsn := hse.grow (below_new wr (.cells #[.int .i64 qa, .int .i64 qp, .slice qad qacts.length qc] 47))
          have hjn := ((below_new wr (.cells #[.int .i64 qa, .int .i64 qp, .slice qad qacts.length qc] 47)).block _ jl).trans hjb
          by_cases hp : qp < yp
          · rw [if_pos hp] at hmx
            obtain ⟨u, W2, hrun, hu, hb2, -⟩ := copyActs (wr.alloc (.cells #[.int .i64 qa, .int .i64 qp, .slice qad qacts.length qc] 47)) qacts qad qc hqs (hqa.below (below_new _ _))
            obtain ⟨uad, uc, rfl⟩ := hu.len
            rw [show (wr.alloc (.cells #[.int .i64 qa, .int .i64 qp, .slice qad qacts.length qc] 47)).heap.size = wr.heap.size + 1 by simp] at hrun
            have H1 : Hid (_ = _) := hrun
            have H2 : Hid (SeeW w W2 w4.heap.size (.slice a1 U c1) (.slice a2 l.length c2) (.slice a3 l.length c3) runs en ws ∧ W2.heap[wo.heap.size]? = some (.cells #[.int .i64 (an : Int), .int .i64 yp, .slice aad yacts.length ac] 47 (0, 0)) ∧ max z (max (longF qacts) (mostF yp (l.drop (m + 1)))) = mostF yp l) := ⟨hsn.grow hb2, (hb2.block _ (by simp; omega)).trans hjn, hmx⟩
            have HLo := Longest_good W2 qacts _ hu hqc
            generalize longF qacts = lo at *
            clear hse hjb jc jf hq hqa hqs hqc hmx hsn hjn hu hb2 hrun
            go_wp2_with (first | (at_builtin; refine append_known rfl (.tmp 100) (.tmp 102) 45 rfl rfl rfl H1.out ?_) | (go_at_call 14; refine HLo.mono ?_; rintro r w6 ⟨rfl, hb6⟩; have H6 : Hid (Below W2.heap.size W2 w6) := hb6; clear hb6 HLo))
            have hb7 := below_seq H6.out (below_new w6 (.cells #[.int .i64 0, .int .i64 0] 31))
            exact ⟨⟨m + 1, max z lo, by omega, by simp, by first | rfl | rw [max_if], H2.out.1.grow hb7, (hb7.block _ (heap_lt H2.out.2.1)).trans H2.out.2.1, by omega, by have := H2.out.2.2; omega⟩, by simp [intOf]; omega⟩
          · rw [if_neg hp] at hmx
            have H2 : Hid (SeeW w (wr.alloc (.cells #[.int .i64 qa, .int .i64 qp, .slice qad qacts.length qc] 47)) w4.heap.size (.slice a1 U c1) (.slice a2 l.length c2) (.slice a3 l.length c3) runs en ws ∧ (wr.alloc (.cells #[.int .i64 qa, .int .i64 qp, .slice qad qacts.length qc] 47)).heap[wo.heap.size]? = some (.cells #[.int .i64 (an : Int), .int .i64 yp, .slice aad yacts.length ac] 47 (0, 0)) ∧ max z (max 0 (mostF yp (l.drop (m + 1)))) = mostF yp l) := ⟨hsn, hjn, hmx⟩
            clear hse hjb jc jf hq hqa hqs hqc hmx hsn hjn
            go_wp2_with fail
            exact ⟨⟨m + 1, z, by omega, by simp, rfl, H2.out.1, H2.out.2.1, hz0, by have := H2.out.2.2; have := mostF_nonneg yp (l.drop (m + 1)); omega⟩, by simp [intOf]; omega⟩
        · have hme : m = l.length := by omega
          subst hme
          rw [List.drop_length, mostF] at hmx
          obtain ⟨g0, g1, g2, g3, gl⟩ := hse.cells
          obtain ⟨eb, eo, rfl, e0, el⟩ := row_cell' hse.e HB.out.2.1
          have HS2 : Hid (SeeW w wr w4.heap.size (.slice a1 U c1) (.slice (some ⟨eb, eo, none⟩) l.length c2) (.slice a3 l.length c3) runs en ws ∧ wr.heap[wo.heap.size]? = some (.cells #[.int .i64 (an : Int), .int .i64 yp, .slice aad yacts.length ac] 47 (0, 0)) ∧ max z 0 = mostF yp l) := ⟨hse, hjb, hmx⟩
          clear hse hjb hmx jc jf
          rcases HB.out.2.2.1 with hez | ⟨hez, hezU⟩
          · subst hez
            have hle : heldF l runs yp an U ≤ mostF yp l := (by have := HB.out.2.2.2; rw [if_pos (by omega)] at this; exact this)
            have HL : Hid (heldF l runs yp an U ≤ mostF yp l) := hle
            clear hle
            have hEU : U ≤ U := Nat.le_refl _
            go_wp2_with fail
            go_loopw [10, 16] (fun v10 i wl => ∃ (T : Nat) (h : Int), v10 = .int .i64 h ∧ i = .int .i64 T ∧ h = heldF l runs yp an T ∧ an ≤ T ∧ (T ≤ U ∨ T = an) ∧ SeeW w wl w4.heap.size (.slice a1 U c1) (.slice (some ⟨eb, eo, none⟩) l.length c2) (.slice a3 l.length c3) runs en ws ∧ wl.heap[wo.heap.size]? = some (.cells #[.int .i64 (an : Int), .int .i64 yp, .slice aad yacts.length ac] 47 (0, 0))) (fun _ i _ => U - (intOf i).toNat)
            case atStart => exact ⟨an, 0, rfl, rfl, (heldF_none _ _ _ _ _ (Nat.le_refl _)).symm, Nat.le_refl _, .inr rfl, HS2.out.1, HS2.out.2.1⟩
            case round =>
              obtain ⟨T, h, rfl, rfl, hh, hT1, hT2, hse, hjb⟩ := hrel
              obtain ⟨jc, jf, jl⟩ := cells_of (l := [_, _, _]) hjb
              have jc0 := jc 0 _ rfl
              have jc1 := jc 1 _ rfl
              obtain ⟨g0, g1, g2, g3, gl⟩ := hse.cells
              by_cases hTE : T < U
              · obtain ⟨r, hr⟩ : ∃ r, runs[T]? = some r := ⟨_, List.getElem?_eq_getElem (by rw [HG.out.1]; omega)⟩
                obtain ⟨rb, ro, rfl, r0, rl⟩ := row_cell' hse.r hr
                have hnx := heldF_next (l := l) (p := yp) hT1 hr
                rw [← hh] at hnx
                have hTi : (T : Int) < (U : Int) := by omega
                have hTU : (T : Int) < (U : Int) := by omega
                have hh0 : 0 ≤ h ∧ h ≤ (T : Int) := by rw [hh]; exact held_in _ _ _ _ _
                have HSN : Hid (SeeW w wr w4.heap.size (.slice (some ⟨rb, ro, none⟩) U c1) (.slice (some ⟨eb, eo, none⟩) l.length c2) (.slice a3 l.length c3) runs en ws ∧ wr.heap[wo.heap.size]? = some (.cells #[.int .i64 (an : Int), .int .i64 yp, .slice aad yacts.length ac] 47 (0, 0))) := ⟨hse, hjb⟩
                by_cases hr0 : 0 ≤ r
                · obtain ⟨m, rfl⟩ := Int.eq_ofNat_of_zero_le hr0
                  by_cases hml : m < l.length
                  · obtain ⟨q, hq, -⟩ := drop_at hml
                    obtain ⟨b', o', e', lq, d0, d1, d2, hqa⟩ := HJ.out wr hse.bel m q hq
                    cases e'
                    rw [hc_some hq] at hnx
                    have hmi : (m : Int) < (l.length : Int) := by omega
                    obtain ⟨qa, qp, qacts, qv⟩ := q
                    dsimp only at hqa d0 d1 d2 hnx
                    by_cases hp : qp < yp
                    · rw [if_pos hp] at hnx
                      have HN : Hid (h + 1 = heldF l runs yp an (T + 1) ∧ SeeW w wr w4.heap.size (.slice (some ⟨rb, ro, none⟩) U c1) (.slice (some ⟨eb, eo, none⟩) l.length c2) (.slice a3 l.length c3) runs en ws ∧ wr.heap[wo.heap.size]? = some (.cells #[.int .i64 (an : Int), .int .i64 yp, .slice aad yacts.length ac] 47 (0, 0))) := ⟨hnx.symm, hse, hjb⟩
                      clear hnx hse hjb jc jf hq hqa hh hr HSN d2
                      go_wp2_with fail
                      go_quiet (fail)
                      go_wp2_with fail
                      exact ⟨⟨T + 1, h + 1, by simp, by simp, HN.out.1, by omega, .inl (by omega), HN.out.2.1.grow below_drewN', (below_drewN'.block _ (heap_lt HN.out.2.2)).trans HN.out.2.2⟩, by simp [intOf]; omega⟩
                    · rw [if_neg hp] at hnx
                      have hp' : decide (qp < yp) = false := by simpa using hp
                      have HN : Hid (h = heldF l runs yp an (T + 1) ∧ SeeW w wr w4.heap.size (.slice (some ⟨rb, ro, none⟩) U c1) (.slice (some ⟨eb, eo, none⟩) l.length c2) (.slice a3 l.length c3) runs en ws ∧ wr.heap[wo.heap.size]? = some (.cells #[.int .i64 (an : Int), .int .i64 yp, .slice aad yacts.length ac] 47 (0, 0))) := ⟨by rw [hnx]; omega, hse, hjb⟩
                      clear hnx hse hjb jc jf hq hqa hh hr HSN d2
                      go_wp2_with fail
                      go_quiet (fail)
                      go_wp2_with fail
                      exact ⟨⟨T + 1, h, rfl, by simp, HN.out.1, by omega, .inl (by omega), HN.out.2.1.grow below_drewN', (below_drewN'.block _ (heap_lt HN.out.2.2)).trans HN.out.2.2⟩, by simp [intOf]; omega⟩
                  · rw [hc_none (by omega)] at hnx
                    have hmi : decide ((m : Int) < (l.length : Int)) = false := by simp; omega
                    have HN : Hid (h = heldF l runs yp an (T + 1) ∧ SeeW w wr w4.heap.size (.slice (some ⟨rb, ro, none⟩) U c1) (.slice (some ⟨eb, eo, none⟩) l.length c2) (.slice a3 l.length c3) runs en ws ∧ wr.heap[wo.heap.size]? = some (.cells #[.int .i64 (an : Int), .int .i64 yp, .slice aad yacts.length ac] 47 (0, 0))) := ⟨by rw [hnx]; omega, hse, hjb⟩
                    clear hnx hse hjb jc jf hh hr HSN
                    go_wp2_with fail
                    go_quiet (fail)
                    go_wp2_with fail
                    exact ⟨⟨T + 1, h, rfl, by simp, HN.out.1, by omega, .inl (by omega), HN.out.2.1.grow below_drewN', (below_drewN'.block _ (heap_lt HN.out.2.2)).trans HN.out.2.2⟩, by simp [intOf]; omega⟩
                · rw [hc_neg hr0] at hnx
                  have hr1 : decide (0 ≤ r) = false := by simpa using hr0
                  have hr2 : r < 0 := by omega
                  have HN : Hid (h = heldF l runs yp an (T + 1) ∧ SeeW w wr w4.heap.size (.slice (some ⟨rb, ro, none⟩) U c1) (.slice (some ⟨eb, eo, none⟩) l.length c2) (.slice a3 l.length c3) runs en ws ∧ wr.heap[wo.heap.size]? = some (.cells #[.int .i64 (an : Int), .int .i64 yp, .slice aad yacts.length ac] 47 (0, 0))) := ⟨by rw [hnx]; omega, hse, hjb⟩
                  clear hnx hse hjb jc jf hh hr HSN
                  go_wp2_with fail
                  go_quiet (fail)
                  go_wp2_with fail
                  exact ⟨⟨T + 1, h, rfl, by simp, HN.out.1, by omega, .inl (by omega), HN.out.2.1.grow below_drewN', (below_drewN'.block _ (heap_lt HN.out.2.2)).trans HN.out.2.2⟩, by simp [intOf]; omega⟩
              · have hle : h ≤ max z 0 := by
                  rw [HS2.out.2.2]
                  rcases hT2 with h1 | h1
                  · have h2 : T = U := by omega
                    subst h2
                    rw [hh]
                    exact HL.out
                  · subst h1
                    rw [hh, heldF_none _ _ _ _ _ (Nat.le_refl _)]
                    exact mostF_nonneg _ _
                have hlez : ¬ (z < h) := by omega
                have hw0 : ws[k]? = some 0 := by rw [HG.out.2.2.1, List.getElem?_replicate, if_pos hlt]
                obtain ⟨tb, tw, rfl, t0, tl⟩ := row_cell' hse.t hw0
                have HN : Hid (SeeW w wr w4.heap.size (.slice a1 U c1) (.slice (some ⟨eb, eo, none⟩) l.length c2) (.slice (some ⟨tb, tw, none⟩) l.length c3) runs en ws) := hse
                clear hse hjb jc jf hle hh hw0
                go_wp2_with fail
                exact ⟨⟨k + 1, by omega, by simp, HN.out⟩, by simp [intOf]; omega⟩
          · obtain ⟨E, rfl⟩ := Int.eq_ofNat_of_zero_le hez
            have hle : heldF l runs yp an E ≤ mostF yp l := (by have := HB.out.2.2.2; rw [if_neg (by omega), Int.toNat_natCast] at this; exact this)
            have HL : Hid (heldF l runs yp an E ≤ mostF yp l) := hle
            have hEU : E ≤ U := by omega
            have hE0 : ¬ ((E : Int) < 0) := by omega
            clear hle hez hezU
            go_wp2_with fail
            go_loopw [10, 16] (fun v10 i wl => ∃ (T : Nat) (h : Int), v10 = .int .i64 h ∧ i = .int .i64 T ∧ h = heldF l runs yp an T ∧ an ≤ T ∧ (T ≤ E ∨ T = an) ∧ SeeW w wl w4.heap.size (.slice a1 U c1) (.slice (some ⟨eb, eo, none⟩) l.length c2) (.slice a3 l.length c3) runs en ws ∧ wl.heap[wo.heap.size]? = some (.cells #[.int .i64 (an : Int), .int .i64 yp, .slice aad yacts.length ac] 47 (0, 0))) (fun _ i _ => E - (intOf i).toNat)
            case atStart => exact ⟨an, 0, rfl, rfl, (heldF_none _ _ _ _ _ (Nat.le_refl _)).symm, Nat.le_refl _, .inr rfl, HS2.out.1, HS2.out.2.1⟩
            case round =>
              obtain ⟨T, h, rfl, rfl, hh, hT1, hT2, hse, hjb⟩ := hrel
              obtain ⟨jc, jf, jl⟩ := cells_of (l := [_, _, _]) hjb
              have jc0 := jc 0 _ rfl
              have jc1 := jc 1 _ rfl
              obtain ⟨g0, g1, g2, g3, gl⟩ := hse.cells
              by_cases hTE : T < E
              · obtain ⟨r, hr⟩ : ∃ r, runs[T]? = some r := ⟨_, List.getElem?_eq_getElem (by rw [HG.out.1]; omega)⟩
                obtain ⟨rb, ro, rfl, r0, rl⟩ := row_cell' hse.r hr
                have hnx := heldF_next (l := l) (p := yp) hT1 hr
                rw [← hh] at hnx
                have hTi : (T : Int) < (E : Int) := by omega
                have hTU : (T : Int) < (U : Int) := by omega
                have hh0 : 0 ≤ h ∧ h ≤ (T : Int) := by rw [hh]; exact held_in _ _ _ _ _
                have HSN : Hid (SeeW w wr w4.heap.size (.slice (some ⟨rb, ro, none⟩) U c1) (.slice (some ⟨eb, eo, none⟩) l.length c2) (.slice a3 l.length c3) runs en ws ∧ wr.heap[wo.heap.size]? = some (.cells #[.int .i64 (an : Int), .int .i64 yp, .slice aad yacts.length ac] 47 (0, 0))) := ⟨hse, hjb⟩
                by_cases hr0 : 0 ≤ r
                · obtain ⟨m, rfl⟩ := Int.eq_ofNat_of_zero_le hr0
                  by_cases hml : m < l.length
                  · obtain ⟨q, hq, -⟩ := drop_at hml
                    obtain ⟨b', o', e', lq, d0, d1, d2, hqa⟩ := HJ.out wr hse.bel m q hq
                    cases e'
                    rw [hc_some hq] at hnx
                    have hmi : (m : Int) < (l.length : Int) := by omega
                    obtain ⟨qa, qp, qacts, qv⟩ := q
                    dsimp only at hqa d0 d1 d2 hnx
                    by_cases hp : qp < yp
                    · rw [if_pos hp] at hnx
                      have HN : Hid (h + 1 = heldF l runs yp an (T + 1) ∧ SeeW w wr w4.heap.size (.slice (some ⟨rb, ro, none⟩) U c1) (.slice (some ⟨eb, eo, none⟩) l.length c2) (.slice a3 l.length c3) runs en ws ∧ wr.heap[wo.heap.size]? = some (.cells #[.int .i64 (an : Int), .int .i64 yp, .slice aad yacts.length ac] 47 (0, 0))) := ⟨hnx.symm, hse, hjb⟩
                      clear hnx hse hjb jc jf hq hqa hh hr HSN d2
                      go_wp2_with fail
                      go_quiet (fail)
                      go_wp2_with fail
                      exact ⟨⟨T + 1, h + 1, by simp, by simp, HN.out.1, by omega, .inl (by omega), HN.out.2.1.grow below_drewN', (below_drewN'.block _ (heap_lt HN.out.2.2)).trans HN.out.2.2⟩, by simp [intOf]; omega⟩
                    · rw [if_neg hp] at hnx
                      have hp' : decide (qp < yp) = false := by simpa using hp
                      have HN : Hid (h = heldF l runs yp an (T + 1) ∧ SeeW w wr w4.heap.size (.slice (some ⟨rb, ro, none⟩) U c1) (.slice (some ⟨eb, eo, none⟩) l.length c2) (.slice a3 l.length c3) runs en ws ∧ wr.heap[wo.heap.size]? = some (.cells #[.int .i64 (an : Int), .int .i64 yp, .slice aad yacts.length ac] 47 (0, 0))) := ⟨by rw [hnx]; omega, hse, hjb⟩
                      clear hnx hse hjb jc jf hq hqa hh hr HSN d2
                      go_wp2_with fail
                      go_quiet (fail)
                      go_wp2_with fail
                      exact ⟨⟨T + 1, h, rfl, by simp, HN.out.1, by omega, .inl (by omega), HN.out.2.1.grow below_drewN', (below_drewN'.block _ (heap_lt HN.out.2.2)).trans HN.out.2.2⟩, by simp [intOf]; omega⟩
                  · rw [hc_none (by omega)] at hnx
                    have hmi : decide ((m : Int) < (l.length : Int)) = false := by simp; omega
                    have HN : Hid (h = heldF l runs yp an (T + 1) ∧ SeeW w wr w4.heap.size (.slice (some ⟨rb, ro, none⟩) U c1) (.slice (some ⟨eb, eo, none⟩) l.length c2) (.slice a3 l.length c3) runs en ws ∧ wr.heap[wo.heap.size]? = some (.cells #[.int .i64 (an : Int), .int .i64 yp, .slice aad yacts.length ac] 47 (0, 0))) := ⟨by rw [hnx]; omega, hse, hjb⟩
                    clear hnx hse hjb jc jf hh hr HSN
                    go_wp2_with fail
                    go_quiet (fail)
                    go_wp2_with fail
                    exact ⟨⟨T + 1, h, rfl, by simp, HN.out.1, by omega, .inl (by omega), HN.out.2.1.grow below_drewN', (below_drewN'.block _ (heap_lt HN.out.2.2)).trans HN.out.2.2⟩, by simp [intOf]; omega⟩
                · rw [hc_neg hr0] at hnx
                  have hr1 : decide (0 ≤ r) = false := by simpa using hr0
                  have hr2 : r < 0 := by omega
                  have HN : Hid (h = heldF l runs yp an (T + 1) ∧ SeeW w wr w4.heap.size (.slice (some ⟨rb, ro, none⟩) U c1) (.slice (some ⟨eb, eo, none⟩) l.length c2) (.slice a3 l.length c3) runs en ws ∧ wr.heap[wo.heap.size]? = some (.cells #[.int .i64 (an : Int), .int .i64 yp, .slice aad yacts.length ac] 47 (0, 0))) := ⟨by rw [hnx]; omega, hse, hjb⟩
                  clear hnx hse hjb jc jf hh hr HSN
                  go_wp2_with fail
                  go_quiet (fail)
                  go_wp2_with fail
                  exact ⟨⟨T + 1, h, rfl, by simp, HN.out.1, by omega, .inl (by omega), HN.out.2.1.grow below_drewN', (below_drewN'.block _ (heap_lt HN.out.2.2)).trans HN.out.2.2⟩, by simp [intOf]; omega⟩
              · have hle : h ≤ max z 0 := by
                  rw [HS2.out.2.2]
                  rcases hT2 with h1 | h1
                  · have h2 : T = E := by omega
                    subst h2
                    rw [hh]
                    exact HL.out
                  · subst h1
                    rw [hh, heldF_none _ _ _ _ _ (Nat.le_refl _)]
                    exact mostF_nonneg _ _
                have hlez : ¬ (z < h) := by omega
                have hw0 : ws[k]? = some 0 := by rw [HG.out.2.2.1, List.getElem?_replicate, if_pos hlt]
                obtain ⟨tb, tw, rfl, t0, tl⟩ := row_cell' hse.t hw0
                have HN : Hid (SeeW w wr w4.heap.size (.slice a1 U c1) (.slice (some ⟨eb, eo, none⟩) l.length c2) (.slice (some ⟨tb, tw, none⟩) l.length c3) runs en ws) := hse
                clear hse hjb jc jf hle hh hw0
                go_wp2_with fail
                exact ⟨⟨k + 1, by omega, by simp, HN.out⟩, by simp [intOf]; omega⟩
    · have hke : k = l.length := by omega
      subst hke
      have HF : Hid (Below w.heap.size w wr) := hse.bel
      clear hse
      go_wp2_with fail
      go_ret
      exact ⟨rfl, HF.out⟩
end Go.Proofs.Ytcmoehednkaehah
