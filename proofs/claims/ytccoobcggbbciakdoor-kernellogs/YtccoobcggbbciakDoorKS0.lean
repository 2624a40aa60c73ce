import Derived.Test.YtccoobcggbbciakDoorKR0
namespace Go.Proofs.YtccoobcggbbciakDoor
open Go.ChangeShapes Go.WideShapes Go.ChangeAt Go.RowKit Go.Sort

theorem zero_val : zeroE.val = .agg #[.int .i64 0, .int .i64 0, .int .i64 0, .int .i64 0, .int .i64 0] := rfl

theorem evOf_nil (k : Int) : (evOf k []).vals = [.int .i64 0, .int .i64 k, .int .i64 0, .int .i64 0, .int .i64 0] := by
  unfold evOf
  split
  · rename_i h
    rw [h]
    rfl
  · rfl

theorem Atoi_some {w : World} {s : ByteArray} {n : Int} (hs : s.size ≤ 1000000) (hG : Gr w) (h : atoF s.data.toList = some n) : Calls Tryd.prog 26 #[.string s] w fun r w' => r = .returned (.tuple #[.int .i64 n, .nilIface]) ∧ Below w.heap.size w w' := by
  refine Calls.mono (Atoi_any w s hs hG.e5 hG.e6) ?_
  rintro r w' ⟨n', ev, rfl, hb, -, -, ⟨rfl, ha⟩ | ⟨t, p, rfl, ha⟩⟩
  · unfold atoF at h
    rw [ha] at h
    cases h
    exact ⟨rfl, hb⟩
  · rw [ha] at h
    cases h

theorem Atoi_none {w : World} {s : ByteArray} (hs : s.size ≤ 1000000) (hG : Gr w) (h : atoF s.data.toList = none) : Calls Tryd.prog 26 #[.string s] w fun r w' => ∃ n t p, r = .returned (.tuple #[.int .i64 n, .iface t p]) ∧ Below w.heap.size w w' := by
  refine Calls.mono (Atoi_any w s hs hG.e5 hG.e6) ?_
  rintro r w' ⟨n', ev, rfl, hb, -, -, ⟨rfl, ha⟩ | ⟨t, p, rfl, ha⟩⟩
  · unfold atoF at h
    rw [ha] at h
    cases h
  · exact ⟨n', t, p, rfl, hb⟩

set_option maxRecDepth 20000 in
set_option maxHeartbeats 8000000 in
theorem event_any (w : World) (s : ByteArray) (hs : s.size ≤ 1000000) (hG : Gr w) :
    Calls Tryd.prog 19 #[.string s] w fun r w' => r = .returned (candF s.data.toList).val ∧ Below w.heap.size w w' := by
  obtain ⟨m, hm⟩ := hG.mx
  have hW := words_are s 32
  have hS := sh_strings_Split s ⟨#[32]⟩ m (w.alloc (.cells #[.int .i64 0, .int .i64 0, .int .i64 0, .int .i64 0, .int .i64 0] 24)) (by omega) (below_cell (below_new _ _) hm) (by decide)
  have hwl : (Lib.splitB ⟨#[32]⟩ 0 (Lib.countB s ⟨#[32]⟩) s).length = Lib.countB s ⟨#[32]⟩ + 1 := Lib.splitB_all ⟨#[32]⟩ (by decide) 0 _ s rfl
  have hsz : ∀ b ∈ Lib.splitB ⟨#[32]⟩ 0 (Lib.countB s ⟨#[32]⟩) s, b.size ≤ 1000000 := by
    intro b hb
    have hmem : b.data.toList ∈ pcs 32 s.data.toList := by rw [← hW]; exact List.mem_map_of_mem hb
    have := pcs_len (c := 32) s.data.toList _ hmem
    rw [size_list, size_list] at this
    omega
  rw [← hwl, show (w.alloc (.cells #[.int .i64 0, .int .i64 0, .int .i64 0, .int .i64 0, .int .i64 0] 24)).heap.size = w.heap.size + 1 by simp] at hS
  generalize Lib.splitB ⟨#[32]⟩ 0 (Lib.countB s ⟨#[32]⟩) s = ws at *
  have HW : Hid (ws.map (·.data.toList) = pcs 32 s.data.toList ∧ (∀ b ∈ ws, b.size ≤ 1000000) ∧ Gr w) := ⟨hW, hsz, hG⟩
  have hwc : ws.length ≤ 1100000 := by
    have h1 := congrArg List.length hW
    rw [List.length_map] at h1
    have h2 := pcs_count (c := 32) s.data.toList
    rw [size_list] at h2
    omega
  clear hW hwl hsz hG hm
  go_enter Tryd.func19, Tryd.ntmps19
  go_upto_region 2 with (go_at_call 41; refine hS.mono ?_; rintro r w1 ⟨rfl, hw1⟩; have hw2 := hw1.symm; clear hw1 hS)
  have HA : Hid (Below w.heap.size w w1 ∧ w1.heap[w.heap.size]? = some (.cells #[.int .i64 0, .int .i64 0, .int .i64 0, .int .i64 0, .int .i64 0] 24 (0, 0)) ∧ w1.heap[w.heap.size + 1]? = some (.cells (ws.map Value.string).toArray 9 (0, 0)) ∧ w1.heap.size = w.heap.size + 1 + 1) := by
    refine ⟨?_, ?_, ?_, ?_⟩
    · rw [← hw2]; exact below_seq (below_new _ _) (below_new _ _)
    · rw [← hw2, Below.heap_alloc _ _ _ (by simp)]; exact heap_alloc_new _ _
    · rw [← hw2]
      have := heap_alloc_new (w.alloc (.cells #[.int .i64 0, .int .i64 0, .int .i64 0, .int .i64 0, .int .i64 0] 24)) (.cells (List.map Value.string ws).toArray 9)
      simpa using this
    · rw [← hw2]; simp
  clear hw2
  by_cases h2 : ws.length < 2
  · have h2i : (ws.length : Int) < 2 := by omega
    obtain ⟨zs, zf, zl⟩ := cells_of (l := [_, _, _, _, _]) HA.out.2.1
    have z0 := zs 0 _ rfl
    have y0 := zf 0
    have z1 := zs 1 _ rfl
    have y1 := zf 1
    have z2 := zs 2 _ rfl
    have y2 := zf 2
    have z3 := zs 3 _ rfl
    have y3 := zf 3
    have z4 := zs 4 _ rfl
    have y4 := zf 4
    clear zs zf
    go_wp2_with fail
    refine bodyPost_ret (event_ends (five_at HA.out.2.1) rfl) rfl ?_
    rw [cand_short (by rw [← HW.out.1, List.length_map]; exact h2), zero_val]
    exact ⟨rfl, five_below HA.out.1 (Nat.le_refl _)⟩
  have h2i : ¬ (ws.length : Int) < 2 := by omega
  have h2j : (1 : Int) < (ws.length : Int) := by omega
  obtain ⟨b1, hb1⟩ : ∃ b1, ws[1]? = some b1 := ⟨ws[1]'(by omega), List.getElem?_eq_getElem _⟩
  have v1 := (cells_of HA.out.2.2.1).1 1 (.string b1) (by rw [List.getElem?_map, hb1]; rfl)
  have l1 : w.heap.size + 1 < w1.heap.size := (Array.getElem?_eq_some_iff.1 HA.out.2.2.1).1
  have HK := kindOf_any w1 b1 (HW.out.2.2.below HA.out.1)
  obtain ⟨k, hk⟩ : ∃ k, kindE b1.data.toList = k := ⟨_, rfl⟩
  rw [hk] at HK
  have HC : Hid (candF s.data.toList = candD k ((ws.take 1 ++ ws.drop 2).map (·.data.toList)) ∧ (ws.take 1 ++ ws.drop 2).length + 1 = ws.length) := by
    have h9 : candF s.data.toList = candD k ((ws.take 1 ++ ws.drop 2).map (·.data.toList)) ∧ (ws.take 1 ++ ws.drop 2).length + 1 = ws.length := by
      have e1 := HW.out.1
      match ws, h2, hb1, e1 with
      | a :: b :: r, _, hb1, e1 =>
        simp at hb1
        subst hb1
        rw [List.map_cons, List.map_cons] at e1
        rw [cand_is e1.symm, hk]
        exact ⟨rfl, by simp⟩
      | [a], h2, _, _ => exact absurd (by simp) h2
      | [], h2, _, _ => exact absurd (by simp) h2
    exact h9
  clear hk hb1
  go_upto_region 5 with (go_at_call 42; refine HK.mono ?_; rintro r w2 ⟨rfl, hb2⟩; have H2 : Hid (Below w1.heap.size w1 w2) := hb2; clear hb2 HK)
  have HB : Hid (Below w.heap.size w (w2.alloc (.cells #[.int .i64 0, .int .i64 k, .int .i64 0, .int .i64 0, .int .i64 0] 24)) ∧ (w2.alloc (.cells #[.int .i64 0, .int .i64 k, .int .i64 0, .int .i64 0, .int .i64 0] 24)).heap[w.heap.size]? = some (.cells #[.int .i64 0, .int .i64 0, .int .i64 0, .int .i64 0, .int .i64 0] 24 (0, 0)) ∧ (w2.alloc (.cells #[.int .i64 0, .int .i64 k, .int .i64 0, .int .i64 0, .int .i64 0] 24)).heap[w.heap.size + 1]? = some (.cells (ws.map Value.string).toArray 9 (0, 0)) ∧ (w2.alloc (.cells #[.int .i64 0, .int .i64 k, .int .i64 0, .int .i64 0, .int .i64 0] 24)).heap[w2.heap.size]? = some (.cells (evOf k []).vals.toArray 24 (0, 0)) ∧ (w2.alloc (.cells #[.int .i64 0, .int .i64 k, .int .i64 0, .int .i64 0, .int .i64 0] 24)).heap.size = w2.heap.size + 1 ∧ w.heap.size + 1 < w2.heap.size) := by
    have hsz := H2.out.size
    have q1 : w.heap.size < w1.heap.size := by omega
    refine ⟨below_seq (below_seq HA.out.1 H2.out) (below_new _ _), ?_, ?_, ?_, by simp, by omega⟩
    · rw [Below.heap_alloc _ _ _ (by omega), H2.out.block _ q1]; exact HA.out.2.1
    · rw [Below.heap_alloc _ _ _ (by omega), H2.out.block _ l1]; exact HA.out.2.2.1
    · rw [evOf_nil]; exact heap_alloc_new _ _
  clear v1 l1 HA H2
  generalize w2.alloc (.cells #[.int .i64 0, .int .i64 k, .int .i64 0, .int .i64 0, .int .i64 0] 24) = w3 at *
  generalize w2.heap.size = gE at *
  have HN := numbersE_any w3 gE k ((cells_of HB.out.2.2.2.1).1 1 _ (by rw [evOf_nil]; rfl))
  rw [HB.out.2.2.2.2.1, ptrs_len] at HN
  go_upto_region 6 with (go_at_call 43; refine HN.mono ?_; rintro r w4 ⟨rfl, hp4, hb4⟩; have H4 : Hid (EW w w4 (w.heap.size + 1) gE k [] ws) := (by obtain ⟨g1, g2, g3, g4, g5, g6⟩ := HB.out; have hb5 : Below w3.heap.size w3 w4 := (by rw [g5]; exact hb4); exact ⟨below_seq g1 hb5, (hb5.block _ (Array.getElem?_eq_some_iff.1 g2).1).trans g2, (hb5.block _ (Array.getElem?_eq_some_iff.1 g4).1).trans g4, hp4, (hb5.block _ (Array.getElem?_eq_some_iff.1 g3).1).trans g3, ⟨by omega, g6⟩⟩); clear hp4 hb4 HN)
  clear HB
  have HD := Delete2 w4 (w.heap.size + 1) ws H4.out.wd (by omega) (by omega)
  obtain ⟨ds, hds⟩ : ∃ ds, ws.take 1 ++ ws.drop 2 = ds := ⟨_, rfl⟩
  rw [hds] at HC HD
  have HZ : Hid (∀ b ∈ ds, b.size ≤ 1000000) := (fun b hb => HW.out.2.1 b (by rw [← hds] at hb; rcases List.mem_append.1 hb with h | h; exact List.mem_of_mem_take h; exact List.mem_of_mem_drop h) : ∀ b ∈ ds, b.size ≤ 1000000)
  have hdl : ws.length - 1 = ds.length := by have := HC.out.2; omega
  rw [hdl] at HD
  clear hds
  go_upto_region 7 with (go_at_call 44; refine HD.mono ?_; rintro r w5 ⟨rfl, hp5, hg5⟩; have H5 : Hid (EW w w5 (w.heap.size + 1) gE k [] (ds ++ [⟨#[]⟩])) := H4.out.del hg5 hp5; clear hp5 hg5 HD)
  clear H4
  have hdc : ds.length ≤ 1100000 := by omega
  by_cases hne : ds.length = howMany k
  rotate_left 1
  · have hni : ¬ (ds.length : Int) = (howMany k : Int) := by omega
    have hnb : ((ds.length : Int) != (howMany k : Int)) = true := by simpa using hni
    obtain ⟨zs, zf, zl⟩ := cells_of (l := [_, _, _, _, _]) H5.out.res
    have z0 := zs 0 _ rfl
    have y0 := zf 0
    have z1 := zs 1 _ rfl
    have y1 := zf 1
    have z2 := zs 2 _ rfl
    have y2 := zf 2
    have z3 := zs 3 _ rfl
    have y3 := zf 3
    have z4 := zs 4 _ rfl
    have y4 := zf 4
    clear zs zf
    go_wp2_with fail
    refine bodyPost_ret (event_ends (five_at H5.out.res) rfl) rfl ?_
    rw [HC.out.1, candD_len (by rw [List.length_map]; exact hne), zero_val]
    exact ⟨rfl, five_below H5.out.bel (Nat.le_refl _)⟩
  have HNE : Hid (ds.length = howMany k) := hne
  rw [hne]
  obtain ⟨L, hL⟩ : ∃ L, howMany k = L := ⟨_, rfl⟩
  have HLk : Hid (howMany k = L) := hL
  have hL4 : 3 ≤ L ∧ L ≤ 4 := by rw [← hL]; unfold howMany; split <;> omega
  rw [hL]
  clear hL hne hdl
  go_wp2_with fail
  go_loopw [32] (fun iv wr => ∃ ns : List Int, ns.length ≤ L ∧ iv = .int .i64 (ns.length : Int) ∧ EW w wr (w.heap.size + 1) gE k ns (ds ++ [⟨#[]⟩]) ∧ ∀ (j : Nat) (n : Int), ns[j]? = some n → ∃ b, ds[j]? = some b ∧ atoF b.data.toList = some n) (fun iv _ => L - (intOf iv).toNat)
  case atStart => exact ⟨[], Nat.zero_le _, rfl, H5.out, fun j n hj => by simp at hj⟩
  case round =>
    obtain ⟨ns, hns, rfl, hew, hall⟩ := hrel
    have HE : Hid (EW w wr (w.heap.size + 1) gE k ns (ds ++ [⟨#[]⟩]) ∧ ∀ (j : Nat) (n : Int), ns[j]? = some n → ∃ b, ds[j]? = some b ∧ atoF b.data.toList = some n) := ⟨hew, hall⟩
    clear hew hall H5
    have HGr : Hid (Gr wr) := HW.out.2.2.below HE.out.1.bel
    obtain ⟨i, hi⟩ : ∃ i, ns.length = i := ⟨_, rfl⟩
    have HI : Hid (ns.length = i) := hi
    rw [hi] at hns
    rw [hi]
    clear hi
    by_cases hiL : i < L
    · have hii : (i : Int) < (L : Int) := by omega
      obtain ⟨bi, hbi⟩ : ∃ bi, ds[i]? = some bi := ⟨ds[i]'(by rw [HNE.out, HLk.out]; exact hiL), List.getElem?_eq_getElem _⟩
      have hil : i < ds.length := (List.getElem?_eq_some_iff.1 hbi).1
      have q1 := (cells_of HE.out.1.wd).1 i (.string bi) (by rw [List.getElem?_map, List.getElem?_append_left hil, hbi]; rfl)
      obtain ⟨o, ho, hpo, -⟩ := HE.out.1.put (by rw [HI.out, HLk.out]; exact hiL) 0
      rw [HI.out] at hpo
      have p1 := (cells_of HE.out.1.ps).1 i _ hpo
      have l5 : gE + 1 < wr.heap.size := (Array.getElem?_eq_some_iff.1 HE.out.1.ps).1
      have l6 : w.heap.size + 1 < wr.heap.size := (Array.getElem?_eq_some_iff.1 HE.out.1.wd).1
      have hsz := HZ.out bi (List.mem_of_getElem? hbi)
      have hcw : (i : Int) < (ds.length : Int) := by omega
      have HBi : Hid (ds[i]? = some bi ∧ (ptrsE gE k)[i]? = some (.pointer (some ⟨gE, o, none⟩))) := ⟨hbi, hpo⟩
      clear hbi hpo
      cases hat : atoF bi.data.toList with
      | none =>
        have HA := Atoi_none hsz HGr.out hat
        go_wp2_with (go_at_call 26; refine HA.mono ?_; rintro r w6 ⟨nn, tt, pp, rfl, hb6⟩; have H6 : Hid (EW w w6 (w.heap.size + 1) gE k ns (ds ++ [⟨#[]⟩])) := HE.out.1.grow hb6; clear hb6 HA; obtain ⟨zs, zf, zl⟩ := cells_of (l := [_, _, _, _, _]) H6.out.res; have z0 := zs 0 _ rfl; have y0 := zf 0; have z1 := zs 1 _ rfl; have y1 := zf 1; have z2 := zs 2 _ rfl; have y2 := zf 2; have z3 := zs 3 _ rfl; have y3 := zf 3; have z4 := zs 4 _ rfl; have y4 := zf 4; clear zs zf)
        refine bodyPost_ret (event_ends (five_at H6.out.res) rfl) rfl ?_
        rw [HC.out.1, candD_bad (i := i) (b := bi.data.toList) (by rw [List.getElem?_map, HBi.out.1]; rfl) hat, zero_val]
        exact ⟨rfl, five_below H6.out.bel (Nat.le_refl _)⟩
      | some n =>
        have HA := Atoi_some hsz HGr.out hat
        obtain ⟨u, hu⟩ : ∃ u, (evOf k ns).vals[o]? = some u := ⟨(evOf k ns).vals[o]'(by rw [Ev.len]; exact ho), List.getElem?_eq_getElem _⟩
        have HT : Hid (atoF bi.data.toList = some n) := hat
        clear hat
        go_wp2_with (go_at_call 26; refine HA.mono ?_; rintro r w6 ⟨rfl, hb6⟩; have H6 : Hid (EW w w6 (w.heap.size + 1) gE k ns (ds ++ [⟨#[]⟩])) := HE.out.1.grow hb6; clear hb6 HA; obtain ⟨ts0, tf0, tl1⟩ := cells_of H6.out.ev; have t1 := ts0 o u hu; have tf1 := tf0 o; clear ts0 tf0)
        have hput := H6.out.put (by rw [HI.out, HLk.out]; exact hiL) n
        obtain ⟨o', -, hpo', hew'⟩ := hput
        rw [HI.out, HBi.out.2] at hpo'
        cases hpo'
        refine ⟨⟨ns ++ [n], by rw [List.length_append, HI.out]; exact hiL, by rw [List.length_append, HI.out]; simp, hew', fun j z hj => ?_⟩, by simp [intOf]; omega⟩
        by_cases hji : j = ns.length
        · subst hji
          rw [List.getElem?_append_right (Nat.le_refl _), Nat.sub_self] at hj
          simp at hj
          subst hj
          exact ⟨bi, by rw [HI.out]; exact HBi.out.1, HT.out⟩
        · refine HE.out.2 j z ?_
          have hjl := (List.getElem?_eq_some_iff.1 hj).1
          rw [List.length_append] at hjl
          simp at hjl
          rw [List.getElem?_append_left (by omega)] at hj
          exact hj
    · have hie : i = L := by omega
      subst hie
      have HF : Hid (candF s.data.toList = evOf k ns) := by
        have h9 : candF s.data.toList = evOf k ns := by
          rw [HC.out.1]
          refine candD_good (by rw [List.length_map]; exact HNE.out) ?_
          apply List.ext_getElem?
          intro j
          rw [List.map_map, List.getElem?_map, List.getElem?_map]
          by_cases hj : j < ns.length
          · obtain ⟨b, hb1, hb2⟩ := HE.out.2 j ns[j] (List.getElem?_eq_getElem hj)
            rw [hb1, List.getElem?_eq_getElem hj]
            simp [hb2]
          · rw [List.getElem?_eq_none (by rw [HNE.out, HLk.out, ← HI.out]; omega), List.getElem?_eq_none (by omega)]
            rfl
        exact h9
      have hev := HE.out.1.ev
      obtain ⟨xa, xk, xt, xm, xn, hx⟩ : ∃ xa xk xt xm xn, evOf k ns = ⟨xa, xk, xt, xm, xn⟩ := ⟨_, _, _, _, _, rfl⟩
      rw [hx] at hev HF
      clear hx
      obtain ⟨zs, zf, zl⟩ := cells_of (l := [_, _, _, _, _]) HE.out.1.res
      have z0 := zs 0 _ rfl
      have y0 := zf 0
      have z1 := zs 1 _ rfl
      have y1 := zf 1
      have z2 := zs 2 _ rfl
      have y2 := zf 2
      have z3 := zs 3 _ rfl
      have y3 := zf 3
      have z4 := zs 4 _ rfl
      have y4 := zf 4
      clear zs zf
      obtain ⟨ts, -, tl⟩ := cells_of (l := [_, _, _, _, _]) hev
      have x0 := ts 0 _ rfl
      have x1 := ts 1 _ rfl
      have x2 := ts 2 _ rfl
      have x3 := ts 3 _ rfl
      have x4 := ts 4 _ rfl
      clear ts hev
      go_wp2_with fail
      refine bodyPost_ret (event_ends (five_at HE.out.1.res) rfl) rfl ?_
      rw [HF.out]
      exact ⟨rfl, five_below HE.out.1.bel (Nat.le_refl _)⟩
end Go.Proofs.YtccoobcggbbciakDoor
