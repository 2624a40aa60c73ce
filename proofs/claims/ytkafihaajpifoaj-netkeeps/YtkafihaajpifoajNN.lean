import Derived.Test.YtkafihaajpifoajNC
import Derived.Test.YtkafihaajpifoajNI
namespace Go.Proofs.Ytkafihaajpifoaj
open Go.ChangeShapes Go.WideShapes Go.ChangeAt Go.RowKit

/-- A coming. -/
structure Co where
  k : Int
  a : Int

def Co.vals (x : Co) : List Value := [.int .i64 x.k, .int .i64 x.a]

def Co.val (x : Co) : Value := .agg #[.int .i64 x.k, .int .i64 x.a]

theorem Co.len (x : Co) : x.vals.length = 2 := rfl

def CoAt (w : World) (b o : Nat) (x : Co) : Prop := w.cell? ⟨b, o, none⟩ = some (.int .i64 x.k) ∧ w.cell? ⟨b, o + 1, none⟩ = some (.int .i64 x.a)

theorem co_at {w : World} {l : List Co} {b o j : Nat} {x : Co} (h : ∀ q u, (l.flatMap Co.vals)[q]? = some u → w.cell? ⟨b, o + q, none⟩ = some u) (hj : l[j]? = some x) : CoAt w b (o + j * 2) x := by
  have k : ∀ k u, k < 2 → x.vals[k]? = some u → w.cell? ⟨b, o + j * 2 + k, none⟩ = some u := fun k u hk hu => by
    rw [Nat.add_assoc]
    exact h _ u ((flat_at Co.vals 2 Co.len l j k x hj hk).trans hu)
  exact ⟨k 0 _ (by omega) rfl, k 1 _ (by omega) rfl⟩

def fr0 : Fr := ⟨0, 0, 0, 0⟩

def Fk (l : List Fr) (k : Int) : Fr := l.getD k.toNat fr0

def sndOne (l : List Fr) (c : Co) (x : Int) : Int := if c.k < 0 ∨ (l.length : Int) ≤ c.k then 4 else if c.a < 0 ∨ 20000 < c.a ∨ x < 0 ∨ (Fk l c.k).j < x then 3 else 0

def sndF (l : List Fr) : List (Co × Int) → Nat → Int × Int
  | [], _ => (0, 0)
  | p :: r, i => if sndOne l p.1 p.2 = 0 then sndF l r (i + 1) else (sndOne l p.1 p.2, (i : Int))

/-- What is wrong with what is sent. -/
def chkS (l : List Fr) (cs : List Co) (la : List Int) : Int × Int := if (chkN l).1 ≠ 0 then chkN l else if 4000 < cs.length ∨ la.length ≠ cs.length then (2, 0) else sndF l (cs.zip la) 0

theorem sndF_at {l : List Fr} {ps : List (Co × Int)} {j : Nat} {p : Co × Int} (h : ps[j]? = some p) : sndF l (ps.drop j) j = if sndOne l p.1 p.2 = 0 then sndF l (ps.drop (j + 1)) (j + 1) else (sndOne l p.1 p.2, (j : Int)) := by
  obtain ⟨hl, rfl⟩ := List.getElem?_eq_some_iff.1 h
  rw [List.drop_eq_getElem_cons hl, sndF]

theorem sndF_ok {l : List Fr} : ∀ (ps : List (Co × Int)) (i : Nat), (sndF l ps i).1 = 0 → (∀ p ∈ ps, sndOne l p.1 p.2 = 0) ∧ sndF l ps i = (0, 0)
  | [], _, _ => ⟨fun _ h => by simp at h, rfl⟩
  | p :: r, i, h => by
    rw [sndF] at h ⊢
    by_cases hm : sndOne l p.1 p.2 = 0
    · rw [if_pos hm] at h ⊢
      obtain ⟨h1, h2⟩ := sndF_ok r (i + 1) h
      exact ⟨fun x hx => by
        rcases List.mem_cons.1 hx with rfl | hx
        · exact hm
        · exact h1 x hx, h2⟩
    · rw [if_neg hm] at h
      exact absurd h hm

theorem CheckS_ends {w : World} {g : Nat} {c k : Value} {a : Act} (h : w.heap[g]? = some (.cells #[c, k] 29 (0, 0))) (h3 : a.tmps[6]?.getD undef = .pointer (some ⟨g, 0, none⟩)) :
    (results Try.f22 a.tmps).run Try.prog w = .ok (.agg #[c, k]) w := by
  obtain ⟨c1, f1, l1⟩ := cells_of (l := [_, _]) h
  have c10 := c1 0 _ rfl
  have c11 := c1 1 _ rfl
  simp [results, Try.results22, go_sem, h3, c10, c11]

theorem within_q (w : World) (n a b : Int) : Calls Try.prog 29 #[.int .i64 n, .int .i64 a, .int .i64 b] w fun r w' => r = .returned (.bool (within n a b)) ∧ ∃ n, w' = w.drewN n :=
  (withinN_any w n a b).mono (by rintro r w' ⟨rfl, rfl⟩; exact ⟨rfl, 0, rfl⟩)

set_option maxRecDepth 20000 in
set_option maxHeartbeats 800000 in
theorem CheckS_any (w : World) (l : List Fr) (cs : List Co) (la : List Int) (v v1 v2 : Value) (hv : RowSl Fr.vals w l v) (hv1 : RowSl Co.vals w cs v1) (hv2 : RowSl nuV w la v2) : Calls Try.prog 22 #[v, v1, v2] w fun r w' => r = .returned (.agg #[.int .i64 (chkS l cs la).1, .int .i64 (chkS l cs la).2]) ∧ Below w.heap.size w w' := by
  have HC := CheckN_any (w.alloc (.cells #[.int .i64 0, .int .i64 0] 29)) l v (hv.below (below_new _ _))
  obtain ⟨ad, c, rfl, -, hcap, hrw⟩ := hv
  obtain ⟨ad1, c1, rfl, -, hcap1, hrw1⟩ := hv1
  obtain ⟨ad2, c2, rfl, -, hcap2, hrw2⟩ := hv2
  by_cases h0 : (chkN l).1 = 0
  rotate_left 1
  · have e : chkS l cs la = chkN l := by unfold chkS; rw [if_pos h0]
    rw [e]
    obtain ⟨z1, z2, hz⟩ : ∃ z1 z2, chkN l = (z1, z2) := ⟨_, _, rfl⟩
    rw [hz] at HC h0 ⊢
    dsimp only at HC h0 ⊢
    have hz1 : (z1 != 0) = true := by simpa using h0
    clear e hz h0 hrw hrw1 hrw2
    go_enter Try.func22, Try.ntmps22
    go_upto_region 2 with (go_at_call 20; refine HC.mono ?_; rintro r w1 ⟨rfl, hb1⟩; have H1 : Hid (FB w (w1.alloc (.cells #[.int .i64 z1, .int .i64 z2] 29)) w.heap.size) := ((FB.start w).grow hb1).grow (below_new _ _); clear hb1 HC)
    obtain ⟨fs, -, fl⟩ := cells_of (l := [_, _]) (heap_alloc_new w1 (.cells #[.int .i64 z1, .int .i64 z2] 29))
    have g0 := fs 0 _ rfl
    have g1 := fs 1 _ rfl
    clear fs
    generalize w1.alloc (.cells #[.int .i64 z1, .int .i64 z2] 29) = w2 at *
    obtain ⟨qs, qf, ql⟩ := cells_of (l := [_, _]) H1.out.res
    have q0 := qs 0 _ rfl
    have q1 := qs 1 _ rfl
    have qf0 := qf 0
    have qf1 := qf 1
    clear qs qf
    go_wp2_with fail
    refine bodyPost_ret (CheckS_ends (g := w.heap.size) (c := .int .i64 z1) (k := .int .i64 z2) (set_two H1.out.res) rfl) rfl ?_
    exact ⟨rfl, H1.out.set _ _⟩
  · obtain ⟨hl1, hl8, hok, hce⟩ := chkN_ok h0
    rw [hce] at HC
    dsimp only at HC
    rcases hrw with hnil | ⟨ab, ao, rfl, hrow⟩
    · rw [hnil] at hl1; simp at hl1
    have HV : Hid ((∀ x ∈ l, okFr x) ∧ (∀ q u, (l.flatMap Fr.vals)[q]? = some u → w.cell? ⟨ab, ao + q, none⟩ = some u) ∧ (chkN l).1 = 0) := ⟨hok, hrow, h0⟩
    have HR : Hid ((cs = [] ∨ ∃ b o, ad1 = some ⟨b, o, none⟩ ∧ ∀ q u, (cs.flatMap Co.vals)[q]? = some u → w.cell? ⟨b, o + q, none⟩ = some u) ∧ (la = [] ∨ ∃ b o, ad2 = some ⟨b, o, none⟩ ∧ ∀ q u, (la.flatMap nuV)[q]? = some u → w.cell? ⟨b, o + q, none⟩ = some u)) := ⟨hrw1, hrw2⟩
    clear hok hrow h0 hce hrw1 hrw2
    by_cases hm : 4000 < cs.length ∨ la.length ≠ cs.length
    · have e : chkS l cs la = (2, 0) := by unfold chkS; rw [if_neg (by have := HV.out.2.2; omega), if_pos hm]
      rw [e]
      clear e
      by_cases h4 : 4000 < cs.length
      · have h4' : (4000 : Int) < (cs.length : Int) := by omega
        clear hm
        go_enter Try.func22, Try.ntmps22
        go_upto_region 2 with (go_at_call 20; refine HC.mono ?_; rintro r w1 ⟨rfl, hb1⟩; have H1 : Hid (FB w (w1.alloc (.cells #[.int .i64 0, .int .i64 0] 29)) w.heap.size) := ((FB.start w).grow hb1).grow (below_new _ _); clear hb1 HC)
        obtain ⟨fs, -, fl⟩ := cells_of (l := [_, _]) (heap_alloc_new w1 (.cells #[.int .i64 0, .int .i64 0] 29))
        have g0 := fs 0 _ rfl
        clear fs
        generalize w1.alloc (.cells #[.int .i64 0, .int .i64 0] 29) = w2 at *
        obtain ⟨qs, qf, ql⟩ := cells_of (l := [_, _]) H1.out.res
        have q0 := qs 0 _ rfl
        have q1 := qs 1 _ rfl
        have qf0 := qf 0
        have qf1 := qf 1
        clear qs qf
        go_wp2_with fail
        refine bodyPost_ret (CheckS_ends (g := w.heap.size) (c := .int .i64 2) (k := .int .i64 0) (set_two H1.out.res) rfl) rfl ?_
        exact ⟨rfl, H1.out.set _ _⟩
      · have h4' : ¬ (4000 : Int) < (cs.length : Int) := by omega
        have hne : ((la.length : Int) != (cs.length : Int)) = true := by rw [bne_iff_ne]; omega
        clear hm
        go_enter Try.func22, Try.ntmps22
        go_upto_region 2 with (go_at_call 20; refine HC.mono ?_; rintro r w1 ⟨rfl, hb1⟩; have H1 : Hid (FB w (w1.alloc (.cells #[.int .i64 0, .int .i64 0] 29)) w.heap.size) := ((FB.start w).grow hb1).grow (below_new _ _); clear hb1 HC)
        obtain ⟨fs, -, fl⟩ := cells_of (l := [_, _]) (heap_alloc_new w1 (.cells #[.int .i64 0, .int .i64 0] 29))
        have g0 := fs 0 _ rfl
        clear fs
        generalize w1.alloc (.cells #[.int .i64 0, .int .i64 0] 29) = w2 at *
        obtain ⟨qs, qf, ql⟩ := cells_of (l := [_, _]) H1.out.res
        have q0 := qs 0 _ rfl
        have q1 := qs 1 _ rfl
        have qf0 := qf 0
        have qf1 := qf 1
        clear qs qf
        go_wp2_with fail
        refine bodyPost_ret (CheckS_ends (g := w.heap.size) (c := .int .i64 2) (k := .int .i64 0) (set_two H1.out.res) rfl) rfl ?_
        exact ⟨rfl, H1.out.set _ _⟩
    · have hm1 : cs.length ≤ 4000 := by omega
      have hm2 : la.length = cs.length := by omega
      have e : chkS l cs la = sndF l (cs.zip la) 0 := by unfold chkS; rw [if_neg (by have := HV.out.2.2; omega), if_neg hm]
      rw [e]
      have h4' : ¬ (4000 : Int) < (cs.length : Int) := by omega
      rw [hm2] at hcap2 ⊢
      have HL : Hid (la.length = cs.length) := hm2
      clear e hm hm2
      go_enter Try.func22, Try.ntmps22
      go_upto_region 2 with (go_at_call 20; refine HC.mono ?_; rintro r w1 ⟨rfl, hb1⟩; have H1 : Hid (FB w (w1.alloc (.cells #[.int .i64 0, .int .i64 0] 29)) w.heap.size) := ((FB.start w).grow hb1).grow (below_new _ _); clear hb1 HC)
      obtain ⟨fs, -, fl⟩ := cells_of (l := [_, _]) (heap_alloc_new w1 (.cells #[.int .i64 0, .int .i64 0] 29))
      have g0 := fs 0 _ rfl
      clear fs
      generalize w1.alloc (.cells #[.int .i64 0, .int .i64 0] 29) = w2 at *
      go_wp2_with fail
      clear g0 fl
      go_loopw [29] (fun i4 wr => ∃ j : Nat, j ≤ cs.length ∧ i4 = .int .i64 j ∧ FB w wr w.heap.size ∧ Hid (sndF l ((cs.zip la).drop j) j = sndF l (cs.zip la) 0)) (fun i4 _ => cs.length - (intOf i4).toNat)
      case atStart => exact ⟨0, Nat.zero_le _, rfl, H1.out, rfl⟩
      case round =>
        obtain ⟨j, hj, rfl, hfb, HS⟩ := hrel
        have HG : Hid (FB w wr w.heap.size) := hfb
        by_cases hjl : j < cs.length
        · obtain ⟨x, hx, -⟩ := drop_at hjl
          obtain ⟨y, hy, -⟩ := drop_at (l := la) (k := j) (by have := HL.out; omega)
          have hp : (cs.zip la)[j]? = some (x, y) := by rw [List.getElem?_zip_eq_some]; exact ⟨hx, hy⟩
          have hsn := HS.out
          rw [sndF_at hp] at hsn
          dsimp only at hsn
          rcases HR.out.1 with h | ⟨b1, o1, rfl, hr1⟩
          · rw [h] at hjl; simp at hjl
          rcases HR.out.2 with h | ⟨b2, o2, rfl, hr2⟩
          · have := HL.out; rw [h] at this; simp at this; omega
          obtain ⟨y0, y1⟩ := co_at (fun q u hq => below_cell hfb.bel (hr1 q u hq)) hx
          have n0 := nu_at (fun q u hq => below_cell hfb.bel (hr2 q u hq)) hy
          obtain ⟨xk, xa⟩ := x
          dsimp only at y0 y1
          have hgl := hfb.lt
          have hji : (j : Int) < (cs.length : Int) := by omega
          have hb1l : b1 < wr.heap.size := World.block_lt_of_cell? _ _ y0
          have hb2l : b2 < wr.heap.size := World.block_lt_of_cell? _ _ n0
          have e38 : IntKind.i64.wrap ((l.length : Int) - 1) = (l.length : Int) - 1 := by rw [IntKind.wrap_i64]; omega
          clear hr1 hr2 hx hy hp
          by_cases hk : xk < 0 ∨ (l.length : Int) ≤ xk
          · have e : sndOne l ⟨xk, xa⟩ y = 4 := by unfold sndOne; rw [if_pos hk]
            rw [e, if_neg (by decide)] at hsn
            have HA : Hid ((4, (j : Int)) = sndF l (cs.zip la) 0) := hsn
            have hw0 : within xk 0 ((l.length : Int) - 1) = false := by unfold within; simp; omega
            clear e hsn HS hfb
            have H2 : Hid (FB w (wr.alloc (.cells #[.int .i64 xk, .int .i64 xa] 33)) w.heap.size) := HG.out.grow (below_new _ _)
            go_upto_region 10 with (go_at_call 29; refine (withinN_any _ _ _ _).mono ?_; rintro r w5 ⟨rfl, hw5⟩; have hw6 := hw5.symm; subst hw6; rw [hw0])
            generalize wr.alloc (.cells #[.int .i64 xk, .int .i64 xa] 33) = wz at *
            obtain ⟨qs, qf, ql⟩ := cells_of (l := [_, _]) H2.out.res
            have q0 := qs 0 _ rfl
            have q1 := qs 1 _ rfl
            have qf0 := qf 0
            have qf1 := qf 1
            clear qs qf
            go_wp2_with fail
            refine bodyPost_ret (CheckS_ends (g := w.heap.size) (c := .int .i64 4) (k := .int .i64 (j : Int)) (set_two H2.out.res) rfl) rfl ?_
            rw [← HA.out]
            exact ⟨rfl, H2.out.set _ _⟩
          · obtain ⟨kn, rfl⟩ : ∃ kn : Nat, xk = (kn : Int) := ⟨xk.toNat, by omega⟩
            have hkn : kn < l.length := by omega
            obtain ⟨m, hm, -⟩ := drop_at hkn
            obtain ⟨m0, m1, m2, m3⟩ := fr_at (fun q u hq => below_cell hfb.bel (HV.out.2.1 q u hq)) hm
            have hFk : Fk l (kn : Int) = m := by unfold Fk; rw [Int.toNat_natCast, List.getD_eq_getElem?_getD, hm]; rfl
            have hw0 : within (kn : Int) 0 ((l.length : Int) - 1) = true := by unfold within; simp; omega
            have hkni : (kn : Int) < (l.length : Int) := by omega
            have hs1 : sndOne l ⟨(kn : Int), xa⟩ y = if xa < 0 ∨ 20000 < xa ∨ y < 0 ∨ m.j < y then 3 else 0 := by unfold sndOne; rw [if_neg hk, hFk]
            rw [hs1] at hsn
            obtain ⟨mc, mt, md, mj⟩ := m
            dsimp only at m0 m1 m2 m3 hsn
            have habl : ab < wr.heap.size := World.block_lt_of_cell? _ _ m0
            have HA : Hid ((if (if xa < 0 ∨ 20000 < xa ∨ y < 0 ∨ mj < y then (3 : Int) else 0) = 0 then sndF l (List.drop (j + 1) (cs.zip la)) (j + 1) else (if xa < 0 ∨ 20000 < xa ∨ y < 0 ∨ mj < y then (3 : Int) else 0, (j : Int))) = sndF l (cs.zip la) 0) := hsn
            have HB2 : Hid (FB w (wr.alloc (.cells #[.int .i64 (kn : Int), .int .i64 xa] 33)) w.heap.size) := HG.out.grow (below_new _ _)
            clear hsn hs1 hFk hm HS hfb hk
            go_upto_region 11 with (go_at_call 29; refine (withinN_any _ _ _ _).mono ?_; rintro r w5 ⟨rfl, hw5⟩; have hw6 := hw5.symm; subst hw6; rw [hw0])
            by_cases b1 : xa < 0 ∨ 20000 < xa
            · have hb1 : within xa 0 20000 = false := by unfold within; simp; omega
              have HA2 := HA.out
              rw [if_pos (show xa < 0 ∨ 20000 < xa ∨ y < 0 ∨ mj < y by omega), if_neg (by decide)] at HA2
              have HA : Hid ((3, (j : Int)) = sndF l (cs.zip la) 0) := HA2
              clear HA2
              go_quiet (first | (go_at_call 29; exact Calls.quiet_of (within_q _ _ _ _)))
              have HZ : Hid (FB w ((wr.alloc (.cells #[.int .i64 (kn : Int), .int .i64 xa] 33)).drewN nq) w.heap.size) := HB2.out.grow below_drewN'
              obtain ⟨qs, qf, ql⟩ := cells_of (l := [_, _]) HZ.out.res
              have q0 := qs 0 _ rfl
              have q1 := qs 1 _ rfl
              have qf0 := qf 0
              have qf1 := qf 1
              clear qs qf
              generalize (wr.alloc (.cells #[.int .i64 (kn : Int), .int .i64 xa] 33)).drewN nq = wz at *
              go_wp2_with fail
              refine bodyPost_ret (CheckS_ends (g := w.heap.size) (c := .int .i64 3) (k := .int .i64 (j : Int)) (set_two HZ.out.res) rfl) rfl ?_
              rw [← HA.out]
              exact ⟨rfl, HZ.out.set _ _⟩
            · have hb1 : within xa 0 20000 = true := by unfold within; simp; omega
              by_cases b2 : y < 0 ∨ mj < y
              · have hb2 : within y 0 mj = false := by unfold within; simp; omega
                have HA2 := HA.out
                rw [if_pos (show xa < 0 ∨ 20000 < xa ∨ y < 0 ∨ mj < y by omega), if_neg (by decide)] at HA2
                have HA : Hid ((3, (j : Int)) = sndF l (cs.zip la) 0) := HA2
                clear HA2
                go_quiet (first | (go_at_call 29; exact Calls.quiet_of (within_q _ _ _ _)))
                have HZ : Hid (FB w ((wr.alloc (.cells #[.int .i64 (kn : Int), .int .i64 xa] 33)).drewN nq) w.heap.size) := HB2.out.grow below_drewN'
                obtain ⟨qs, qf, ql⟩ := cells_of (l := [_, _]) HZ.out.res
                have q0 := qs 0 _ rfl
                have q1 := qs 1 _ rfl
                have qf0 := qf 0
                have qf1 := qf 1
                clear qs qf
                generalize (wr.alloc (.cells #[.int .i64 (kn : Int), .int .i64 xa] 33)).drewN nq = wz at *
                go_wp2_with fail
                refine bodyPost_ret (CheckS_ends (g := w.heap.size) (c := .int .i64 3) (k := .int .i64 (j : Int)) (set_two HZ.out.res) rfl) rfl ?_
                rw [← HA.out]
                exact ⟨rfl, HZ.out.set _ _⟩
              · have hb2 : within y 0 mj = true := by unfold within; simp; omega
                have HA2 := HA.out
                rw [if_neg (show ¬ (xa < 0 ∨ 20000 < xa ∨ y < 0 ∨ mj < y) by omega), if_pos rfl] at HA2
                have HA : Hid (sndF l (List.drop (j + 1) (cs.zip la)) (j + 1) = sndF l (cs.zip la) 0) := HA2
                clear HA2
                go_quiet (first | (go_at_call 29; exact Calls.quiet_of (within_q _ _ _ _)))
                have HZ : Hid (FB w ((wr.alloc (.cells #[.int .i64 (kn : Int), .int .i64 xa] 33)).drewN nq) w.heap.size) := HB2.out.grow below_drewN'
                obtain ⟨qs, qf, ql⟩ := cells_of (l := [_, _]) HZ.out.res
                have q0 := qs 0 _ rfl
                have q1 := qs 1 _ rfl
                have qf0 := qf 0
                have qf1 := qf 1
                clear qs qf
                generalize (wr.alloc (.cells #[.int .i64 (kn : Int), .int .i64 xa] 33)).drewN nq = wz at *
                go_wp2_with fail
                exact ⟨⟨j + 1, by omega, by simp, HZ.out, HA.out⟩, by simp [intOf]; omega⟩
        · have hje : j = cs.length := by omega
          subst hje
          have hsn := HS.out
          rw [List.drop_of_length_le (by rw [List.length_zip]; omega), sndF] at hsn
          have HA : Hid ((0, 0) = sndF l (cs.zip la) 0) := hsn
          obtain ⟨qs, qf, ql⟩ := cells_of (l := [_, _]) hfb.res
          have q0 := qs 0 _ rfl
          have q1 := qs 1 _ rfl
          have qf0 := qf 0
          have qf1 := qf 1
          have hji : ¬ ((cs.length : Nat) : Int) < (cs.length : Int) := by omega
          clear qs qf hfb HS hsn
          go_wp2_with fail
          refine bodyPost_ret (CheckS_ends (g := w.heap.size) (c := .int .i64 0) (k := .int .i64 0) (set_two HG.out.res) rfl) rfl ?_
          rw [← HA.out]
          exact ⟨rfl, HG.out.set _ _⟩
end Go.Proofs.Ytkafihaajpifoaj
