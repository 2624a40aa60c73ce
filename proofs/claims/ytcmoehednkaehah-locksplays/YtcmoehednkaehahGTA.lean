import Derived.Test.YtcmoehednkaehahGSZ
import Derived.Test.YtcmoehednkaehahGSZb
namespace Go.Proofs.Ytcmoehednkaehah
open Go.ChangeShapes Go.WideShapes Go.ChangeAt Go.RowKit

set_option maxRecDepth 20000 in
set_option maxHeartbeats 4000000 in
theorem LocksPlays_c (w : World) (l : List Lj) (v : Value) (hv : LkSl w l v) (hs : ∀ x ∈ l, x.acts.length * 16 ≤ 140737488355328) (h : l.length ≤ 5000) (pr U : Int) (h1 : l.length ≤ 100) (g2 : 3000 < U) (g3 : ¬ (U ≤ 20000)) :
    Calls Try.prog 3 #[v, .int .i64 pr, .int .i64 U] w fun r w' => r = .returned (.bool true) ∧ Below w.heap.size w w' := by
  obtain ⟨ad, cp, hve⟩ := hv.1.len
  subst hve
  have hfew : decide ((l.length : Int) ≤ 5000) = true := by simp; omega
  have HV : Hid (LkSl w l (.slice ad l.length cp) ∧ (∀ x ∈ l, x.acts.length * 16 ≤ 140737488355328) ∧ l.length ≤ 5000) := ⟨hv, hs, h⟩
  clear hv hs h
  have g1 : (l.length : Int) ≤ 100 := by omega
  clear h1
  go_enter Try.func3, Try.ntmps3
  go_wp2_with (go_at_call 5; refine (locked_any _).mono ?_; rintro r w1 ⟨rfl, hb⟩; have H1 : Hid (Below w.heap.size w w1) := hb; clear hb)
  go_wp2_with (go_at_call 6; refine (few_any _ _).mono ?_; rintro r w2 ⟨rfl, rfl⟩; rw [hfew])
  go_wp2_with (go_at_call 7; refine (Acts_any _ l (.slice ad l.length cp) HV.out.2.2 HV.out.2.1 (HV.out.1.below H1.out)).mono ?_; rintro r w3 ⟨u, js, rfl, hcore, hjs, hb, -, -⟩; obtain ⟨ad2, cp2, hu⟩ := hjs.1.len; subst hu; have H3 : Hid (Below w.heap.size w w3 ∧ LkSl w3 js (.slice ad2 js.length cp2) ∧ js.map Lj.core = l.map Lj.core) := ⟨below_seq H1.out hb, hjs, hcore⟩; clear hcore hjs hb)
  have HD := PlayDoc_all w3 l _ (HV.out.1.below H3.out.1) pr U
  go_wp2_with (go_at_call 8; refine HD.mono ?_; rintro r w4 ⟨rv, ev, tv, runs, en, ws, sk, z1, z2, rfl, han, hrw⟩; obtain ⟨a1, c1, rfl⟩ := hrw.r.len; obtain ⟨a2, c2, rfl⟩ := hrw.e.len; obtain ⟨a3, c3, rfl⟩ := hrw.t.len; have H4 : Hid (An l pr U runs en ws sk z1 z2 ∧ RowsW w3 w4 (.slice a1 runs.length c1) (.slice a2 en.length c2) (.slice a3 ws.length c3) runs en ws) := ⟨han, hrw⟩; clear han hrw HD)
  have hb6 : Below w4.heap.size w4 ((w4.alloc (.cells #[.slice a1 runs.length c1, .slice a2 en.length c2, .slice a3 ws.length c3, .bool sk] 28)).alloc (.cells #[.int .i64 z1, .int .i64 z2] 31)) := below_seq (below_new _ _) (below_new _ _)
  have hx1 : ((w4.alloc (.cells #[.slice a1 runs.length c1, .slice a2 en.length c2, .slice a3 ws.length c3, .bool sk] 28)).alloc (.cells #[.int .i64 z1, .int .i64 z2] 31)).heap[w4.heap.size]? = some (.cells #[.slice a1 runs.length c1, .slice a2 en.length c2, .slice a3 ws.length c3, .bool sk] 28 (0, 0)) := (Below.heap_alloc _ _ _ (by simp)).trans (heap_alloc_new _ _)
  have hx2 : ((w4.alloc (.cells #[.slice a1 runs.length c1, .slice a2 en.length c2, .slice a3 ws.length c3, .bool sk] 28)).alloc (.cells #[.int .i64 z1, .int .i64 z2] 31)).heap[w4.heap.size + 1]? = some (.cells #[.int .i64 z1, .int .i64 z2] 31 (0, 0)) := by
    have := heap_alloc_new (w4.alloc (.cells #[.slice a1 runs.length c1, .slice a2 en.length c2, .slice a3 ws.length c3, .bool sk] 28)) (.cells #[.int .i64 z1, .int .i64 z2] 31)
    simpa using this
  have hb5 : Below w3.heap.size w3 ((w4.alloc (.cells #[.slice a1 runs.length c1, .slice a2 en.length c2, .slice a3 ws.length c3, .bool sk] 28)).alloc (.cells #[.int .i64 z1, .int .i64 z2] 31)) := below_seq H4.out.2.bel hb6
  have H5 : Hid (LL w ((w4.alloc (.cells #[.slice a1 runs.length c1, .slice a2 en.length c2, .slice a3 ws.length c3, .bool sk] 28)).alloc (.cells #[.int .i64 z1, .int .i64 z2] 31)) l js (.slice ad l.length cp) (.slice ad2 js.length cp2) w4.heap.size runs en ws (.slice a1 runs.length c1) (.slice a2 en.length c2) (.slice a3 ws.length c3) sk z1 z2 ∧ An l pr U runs en ws sk z1 z2 ∧ js.map Lj.core = l.map Lj.core) := ⟨⟨below_seq H3.out.1 hb5, (HV.out.1.below H3.out.1).below hb5, H3.out.2.1.below hb5, hx1, hx2, H4.out.2.r.below hb6, H4.out.2.e.below hb6, H4.out.2.t.below hb6⟩, H4.out.1, H3.out.2.2⟩
  clear hx1 hx2 hb6 hb5 H4 H1 H3
  generalize ((w4.alloc (.cells #[.slice a1 runs.length c1, .slice a2 en.length c2, .slice a3 ws.length c3, .bool sk] 28)).alloc (.cells #[.int .i64 z1, .int .i64 z2] 31)) = w5 at *
  generalize w4.heap.size = G at *
  go_loopw [40] (fun i W => ∃ j : Nat, j ≤ 2 ∧ i = .int .i64 j ∧ LL w W l js (.slice ad l.length cp) (.slice ad2 js.length cp2) G runs en ws (.slice a1 runs.length c1) (.slice a2 en.length c2) (.slice a3 ws.length c3) sk z1 z2) (fun i _ => 2 - (intOf i).toNat)
  case atStart => exact ⟨0, by omega, rfl, H5.out.1⟩
  case round =>
    obtain ⟨j, hj, rfl, hpll⟩ := hrel
    have Hd : Hid (LL w wr l js (.slice ad l.length cp) (.slice ad2 js.length cp2) G runs en ws (.slice a1 runs.length c1) (.slice a2 en.length c2) (.slice a3 ws.length c3) sk z1 z2) := hpll
    clear hpll
    by_cases hj2 : j < 2
    · have hji : (j : Int) < 2 := by omega
      have HP := Play_all wr js _ Hd.out.ju pr U
      go_upto_region 10 with (go_at_call 9; refine HP.mono ?_; rintro r w6 ⟨rv', ev', tv', runs', en', ws', sk', y1, y2, rfl, han, hrw, hfr⟩; obtain ⟨q1, q2, q3, q4, q5, q6⟩ := An.one H5.out.2.2 H5.out.2.1 han; subst q1 q2 q3 q4 q5 q6; obtain ⟨b1, d1, rfl⟩ := hrw.r.len; obtain ⟨b2, d2, rfl⟩ := hrw.e.len; obtain ⟨b3, d3, rfl⟩ := hrw.t.len; have H6 : Hid (RowsW wr w6 (.slice b1 runs.length d1) (.slice b2 en.length d2) (.slice b3 ws.length d3) runs en ws ∧ Fr wr w6 (.slice b1 runs.length d1) (.slice b2 en.length d2) (.slice b3 ws.length d3)) := ⟨hrw, hfr⟩; clear han hrw hfr HP)
      have hx1 : ((w6.alloc (.cells #[.slice b1 runs.length d1, .slice b2 en.length d2, .slice b3 ws.length d3, .bool sk] 37)).alloc (.cells #[.int .i64 z1, .int .i64 z2] 31)).heap[w6.heap.size]? = some (.cells #[.slice b1 runs.length d1, .slice b2 en.length d2, .slice b3 ws.length d3, .bool sk] 37 (0, 0)) := (Below.heap_alloc _ _ _ (by simp)).trans (heap_alloc_new _ _)
      have hx2 : ((w6.alloc (.cells #[.slice b1 runs.length d1, .slice b2 en.length d2, .slice b3 ws.length d3, .bool sk] 37)).alloc (.cells #[.int .i64 z1, .int .i64 z2] 31)).heap[w6.heap.size + 1]? = some (.cells #[.int .i64 z1, .int .i64 z2] 31 (0, 0)) := by
        have := heap_alloc_new (w6.alloc (.cells #[.slice b1 runs.length d1, .slice b2 en.length d2, .slice b3 ws.length d3, .bool sk] 37)) (.cells #[.int .i64 z1, .int .i64 z2] 31)
        simpa using this
      obtain ⟨o1, o2, o3, hrd⟩ := RD.start H6.out.1 H6.out.2 (below_seq (below_new _ _) (below_new _ _)) hx1 hx2
      have HR : Hid (RD wr ((w6.alloc (.cells #[.slice b1 runs.length d1, .slice b2 en.length d2, .slice b3 ws.length d3, .bool sk] 37)).alloc (.cells #[.int .i64 z1, .int .i64 z2] 31)) w6.heap.size (.slice b1 runs.length d1) (.slice b2 en.length d2) (.slice b3 ws.length d3) sk z1 z2 runs en ws o1 o2 o3) := hrd
      clear hx1 hx2 H6
      generalize ((w6.alloc (.cells #[.slice b1 runs.length d1, .slice b2 en.length d2, .slice b3 ws.length d3, .bool sk] 37)).alloc (.cells #[.int .i64 z1, .int .i64 z2] 31)) = w7 at *
      generalize w6.heap.size = D at *
      have hll := Hd.out.grow hrd.bel
      obtain ⟨⟨n0, n1, n2, n3⟩, ⟨m0, m1⟩⟩ := hrd.see; obtain ⟨⟨s0, s1, s2, s3⟩, ⟨t0, t1⟩⟩ := hll.see
      have HS := SameN_any _ runs _ _ (by have := H5.out.2.1.ln; omega) hrd.r hll.r
      clear hrd hll
      go_wp2_with (go_at_call 10; refine HS.mono ?_; rintro r w8 ⟨rfl, hb⟩; clear HS; have H8 : Hid (RD wr w8 D (.slice b1 runs.length d1) (.slice b2 en.length d2) (.slice b3 ws.length d3) sk z1 z2 runs en ws o1 o2 o3) := HR.out.grow hb; clear hb HR; clear n0 n1 n2 n3 m0 m1 s0 s1 s2 s3 t0 t1; obtain ⟨⟨n0, n1, n2, n3⟩, ⟨m0, m1⟩⟩ := H8.out.see; obtain ⟨⟨s0, s1, s2, s3⟩, ⟨t0, t1⟩⟩ := (Hd.out.grow H8.out.bel).see)
      have HS := SameN_any _ en _ _ (by have := H5.out.2.1.ln; omega) H8.out.e (Hd.out.grow H8.out.bel).e
      go_wp2_with (go_at_call 10; refine HS.mono ?_; rintro r w9 ⟨rfl, hb⟩; clear HS; have H9 : Hid (RD wr w9 D (.slice b1 runs.length d1) (.slice b2 en.length d2) (.slice b3 ws.length d3) sk z1 z2 runs en ws o1 o2 o3) := H8.out.grow hb; clear hb H8; clear n0 n1 n2 n3 m0 m1 s0 s1 s2 s3 t0 t1; obtain ⟨⟨n0, n1, n2, n3⟩, ⟨m0, m1⟩⟩ := H9.out.see; obtain ⟨⟨s0, s1, s2, s3⟩, ⟨t0, t1⟩⟩ := (Hd.out.grow H9.out.bel).see)
      have HS := SameN_any _ ws _ _ (by have := H5.out.2.1.ln; omega) H9.out.t (Hd.out.grow H9.out.bel).t
      go_wp2_with (go_at_call 10; refine HS.mono ?_; rintro r w10 ⟨rfl, hb⟩; clear HS; have H10 : Hid (RD wr w10 D (.slice b1 runs.length d1) (.slice b2 en.length d2) (.slice b3 ws.length d3) sk z1 z2 runs en ws o1 o2 o3) := H9.out.grow hb; clear hb H9; clear n0 n1 n2 n3 m0 m1 s0 s1 s2 s3 t0 t1; obtain ⟨⟨n0, n1, n2, n3⟩, ⟨m0, m1⟩⟩ := H10.out.see; obtain ⟨⟨s0, s1, s2, s3⟩, ⟨t0, t1⟩⟩ := (Hd.out.grow H10.out.bel).see)
      have HS := SameActs_any _ js l _ _ HV.out.2.2 (fun x hx => by have := HV.out.2.1 x hx; omega) H5.out.2.2 (Hd.out.grow H10.out.bel).ju (Hd.out.grow H10.out.bel).lv
      go_wp2_with (go_at_call 11; refine HS.mono ?_; rintro r w11 ⟨rfl, hb⟩; clear HS; have H11 : Hid (RD wr w11 D (.slice b1 runs.length d1) (.slice b2 en.length d2) (.slice b3 ws.length d3) sk z1 z2 runs en ws o1 o2 o3) := H10.out.grow hb; clear hb H10; clear n0 n1 n2 n3 m0 m1 s0 s1 s2 s3 t0 t1; obtain ⟨⟨n0, n1, n2, n3⟩, -⟩ := H11.out.see)
      have HS := Spoil_any _ _ _ _ H11.out.s1
      go_wp2_with (go_at_call 12; refine HS.mono ?_; rintro r w12 ⟨rfl, hb⟩; clear HS; have H12 : Hid (RE wr w12 D (.slice b1 runs.length d1) (.slice b2 en.length d2) (.slice b3 ws.length d3) sk o2 o3) := H11.out.spoil hb; clear hb H11 n0 n1 n2 n3; have n1 := (cells_of H12.out.c1).1 1 _ rfl)
      have HS := Spoil_any _ _ _ _ H12.out.s2
      go_wp2_with (go_at_call 12; refine HS.mono ?_; rintro r w13 ⟨rfl, hb⟩; clear HS; have H13 : Hid (RF wr w13 D (.slice b1 runs.length d1) (.slice b2 en.length d2) (.slice b3 ws.length d3) sk o3) := H12.out.spoil hb; clear hb H12 n1; have n2 := (cells_of H13.out.c1).1 2 _ rfl)
      have HS := Spoil_any _ _ _ _ H13.out.s3
      go_wp2_with (go_at_call 12; refine HS.mono ?_; rintro r w14 ⟨rfl, hb⟩; clear HS; have H14 : Hid (LL w w14 l js (.slice ad l.length cp) (.slice ad2 js.length cp2) G runs en ws (.slice a1 runs.length c1) (.slice a2 en.length c2) (.slice a3 ws.length c3) sk z1 z2) := Hd.out.grow (H13.out.spoil hb); clear hb H13 n2)
      exact ⟨⟨j + 1, by omega, by simp, H14.out⟩, by simp [intOf]; omega⟩
    · have hje : j = 2 := by omega
      subst hje
      go_wp2_with fail
      go_ret
      exact ⟨rfl, Hd.out.bel⟩
end Go.Proofs.Ytcmoehednkaehah
namespace Go.Proofs.Ytcmoehednkaehah
open Go.ChangeShapes Go.WideShapes Go.ChangeAt Go.RowKit

set_option maxRecDepth 20000 in
set_option maxHeartbeats 1000000 in
theorem LocksPlays_many (w : World) (l : List Lj) (v : Value) (hv : LkSl w l v) (h : 5000 < l.length) (pr U : Int) :
    Calls Try.prog 3 #[v, .int .i64 pr, .int .i64 U] w fun r w' => r = .returned (.bool true) ∧ Below w.heap.size w w' := by
  obtain ⟨ad, cp, hve⟩ := hv.1.len
  subst hve
  have hfew : decide ((l.length : Int) ≤ 5000) = false := by simp; omega
  clear hv
  go_enter Try.func3, Try.ntmps3
  go_wp2_with (go_at_call 5; refine (locked_any _).mono ?_; rintro r w1 ⟨rfl, hb⟩; have H1 : Hid (Below w.heap.size w w1) := hb; clear hb)
  go_wp2_with (go_at_call 6; refine (few_any _ _).mono ?_; rintro r w2 ⟨rfl, rfl⟩; rw [hfew])
  go_ret
  exact ⟨rfl, H1.out⟩

set_option maxRecDepth 20000 in
set_option maxHeartbeats 1000000 in
theorem LocksPlays_long (w : World) (l : List Lj) (v : Value) (hv : LkSl w l v) (h : l.length ≤ 100) (pr U : Int) (h1 : 3000 < U) (h2 : U ≤ 20000) :
    Calls Try.prog 3 #[v, .int .i64 pr, .int .i64 U] w fun r w' => r = .returned (.bool true) ∧ Below w.heap.size w w' := by
  obtain ⟨ad, cp, hve⟩ := hv.1.len
  subst hve
  have hfew : decide ((l.length : Int) ≤ 5000) = true := by simp; omega
  have g1 : (l.length : Int) ≤ 100 := by omega
  clear hv
  go_enter Try.func3, Try.ntmps3
  go_wp2_with (go_at_call 5; refine (locked_any _).mono ?_; rintro r w1 ⟨rfl, hb⟩; have H1 : Hid (Below w.heap.size w w1) := hb; clear hb)
  go_wp2_with (go_at_call 6; refine (few_any _ _).mono ?_; rintro r w2 ⟨rfl, rfl⟩; rw [hfew])
  go_ret
  exact ⟨rfl, H1.out⟩

/-- The law, at any jobs, any protocol and any time. -/
theorem plays_walk (w : World) (l : List Lj) (v : Value) (hv : LkSl w l v) (hs : ∀ x ∈ l, x.acts.length * 16 ≤ 140737488355328) (pr U : Int) :
    Calls Try.prog 3 #[v, .int .i64 pr, .int .i64 U] w fun r w' => r = .returned (.bool true) ∧ Below w.heap.size w w' := by
  by_cases h : l.length ≤ 5000
  · by_cases h1 : l.length ≤ 100
    · by_cases h2 : 3000 < U
      · by_cases h3 : U ≤ 20000
        · exact LocksPlays_long w l v hv h1 pr U h2 h3
        · exact LocksPlays_c w l v hv hs h pr U h1 h2 h3
      · exact LocksPlays_b w l v hv hs h pr U h1 h2
    · exact LocksPlays_a w l v hv hs h pr U h1
  · exact LocksPlays_many w l v hv (by omega) pr U
end Go.Proofs.Ytcmoehednkaehah
