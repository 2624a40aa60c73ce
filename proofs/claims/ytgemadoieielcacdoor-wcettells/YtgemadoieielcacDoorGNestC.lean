import Derived.Test.YtgemadoieielcacDoorGNestA
namespace Go.Proofs.YtgemadoieielcacDoor
open Go.ChangeShapes Go.WideShapes Go.ChangeAt Go.RowKit

set_option maxRecDepth 20000 in
set_option maxHeartbeats 4000000 in
theorem nested_14_empty (w0 wF w : World) (rb wb B : Nat) (l : List In) (iv : Value) (os : List Nat) (ov : Value) (ws : List Int) (k : Nat) (a b : Int) (h : NS w0 wF w rb wb B l iv os ov ws) (hk : k < l.length) (_hl : l.length ≤ 2000) (ho : os.length ≤ 2000) (he : os = []) :
    Calls Tryd.prog 68 #[.pointer (some ⟨rb, 0, none⟩), .int .i64 k, .agg #[.int .i64 14, .int .i64 a, .int .i64 b]] w fun r w' => r = .returned (.int .i64 9) ∧ ∃ ov', NS w0 wF w' rb wb B l iv os ov' (ws.set k (beginOf os.getLast?)) := by
  obtain ⟨oad, oc, rfl⟩ := owns_value h.own
  have hkw : k < ws.length := by rw [h.len]; omega
  have lr : rb < w.heap.size := (Array.getElem?_eq_some_iff.1 h.blk).1
  have lw : wb < w.heap.size := (Array.getElem?_eq_some_iff.1 h.wth).1
  have lo := h.ord.2.1
  have n1 : ¬ w.heap.size = wb := by omega
  have n2 : ¬ rb = wb := by omega
  have n3 : ¬ w.heap.size = rb := by omega
  have H0 : Hid (NS w0 wF w rb wb B l iv os (.slice oad os.length oc) ws) := h
  clear h
  generalize hin : beginOf os.getLast? = inn
  have HIN : Hid (beginOf os.getLast? = inn) := hin
  have e0 : inn = 0 := by rw [← hin, he]; rfl
  subst e0
  go_enter Tryd.func68, Tryd.ntmps68
  go_wp2_with (go_at_call 101; refine (innermost_any _ rb l os _ _ _ ((H0.out.grow (below_new _ _)).rg) (by omega)).mono ?_; rintro r w1 ⟨rfl, hb1⟩; have c0 : w1.cell? ⟨w.heap.size, 0, none⟩ = some (.int .i64 14) := below_cell hb1 (by go_simp); have c1 : w1.cell? ⟨w.heap.size, 1, none⟩ = some (.int .i64 a) := below_cell hb1 (by go_simp); have c2 : w1.cell? ⟨w.heap.size, 2, none⟩ = some (.int .i64 b) := below_cell hb1 (by go_simp); have H1 : Hid (NS w0 wF w1 rb wb B l iv os (.slice oad os.length oc) ws) := H0.out.grow (below_seq (below_new _ _) hb1); obtain ⟨cs, fs, lt1⟩ := cells_of (l := [_, _, _]) H1.out.blk; have k0 := cs 0 _ rfl; have k1 := cs 1 _ rfl; have k2 := cs 2 _ rfl; have fr1 := fs 1; obtain ⟨ds, es, lt2⟩ := cells_of (l := intVs ws) H1.out.wth; have kw := ds k (.int .i64 (ws.getD k 0)) (by simp [intVs, List.getD, hkw]); have fw := es k; have lx : w.heap.size < w1.heap.size := World.block_lt_of_cell? w1 _ c0; clear hb1 cs fs ds es; rw [hin]; clear hin)
  go_ret
  exact ⟨rfl, _, H1.out.setW k 0⟩

set_option maxRecDepth 20000 in
set_option maxHeartbeats 4000000 in
theorem nested_14_bad (w0 wF w : World) (rb wb B : Nat) (l : List In) (iv : Value) (os : List Nat) (ov : Value) (ws : List Int) (k : Nat) (a b : Int) (h : NS w0 wF w rb wb B l iv os ov ws) (hk : k < l.length) (hl : l.length ≤ 2000) (ho : os.length ≤ 2000) (bq : Int) (hne : os ≠ []) (hq : beginOf (opens l os 13 a) = bq) (hbq : bq ≠ beginOf os.getLast?) :
    Calls Tryd.prog 68 #[.pointer (some ⟨rb, 0, none⟩), .int .i64 k, .agg #[.int .i64 14, .int .i64 a, .int .i64 b]] w fun r w' => r = .returned (.int .i64 9) ∧ ∃ ov', NS w0 wF w' rb wb B l iv os ov' (ws.set k (beginOf os.getLast?)) := by
  obtain ⟨oad, oc, rfl⟩ := owns_value h.own
  have hkw : k < ws.length := by rw [h.len]; omega
  have lr : rb < w.heap.size := (Array.getElem?_eq_some_iff.1 h.blk).1
  have lw : wb < w.heap.size := (Array.getElem?_eq_some_iff.1 h.wth).1
  have lo := h.ord.2.1
  have n1 : ¬ w.heap.size = wb := by omega
  have n2 : ¬ rb = wb := by omega
  have n3 : ¬ w.heap.size = rb := by omega
  have H0 : Hid (NS w0 wF w rb wb B l iv os (.slice oad os.length oc) ws) := h
  clear h
  generalize hin : beginOf os.getLast? = inn
  have HIN : Hid (beginOf os.getLast? = inn) := hin
  rw [hin] at hbq
  have hlast : ∃ z : Nat, os.getLast? = some z := by
    cases hh : os.getLast? with
    | none => exact absurd (List.getLast?_eq_none_iff.1 hh) hne
    | some z => exact ⟨z, rfl⟩
  have hpos : ¬ inn = 0 := by
    obtain ⟨z, hz⟩ := hlast
    rw [hz] at hin
    have : (z : Int) + 1 = inn := hin
    omega
  have hi0 : (inn == 0) = false := by simpa using hpos
  clear hlast
  have hb1 : (bq != inn) = true := by simpa using hbq
  have hb2 : (bq == inn) = false := by simpa using hbq
  go_enter Tryd.func68, Tryd.ntmps68
  go_wp2_with (go_at_call 101; refine (innermost_any _ rb l os _ _ _ ((H0.out.grow (below_new _ _)).rg) (by omega)).mono ?_; rintro r w1 ⟨rfl, hb1⟩; have c0 : w1.cell? ⟨w.heap.size, 0, none⟩ = some (.int .i64 14) := below_cell hb1 (by go_simp); have c1 : w1.cell? ⟨w.heap.size, 1, none⟩ = some (.int .i64 a) := below_cell hb1 (by go_simp); have c2 : w1.cell? ⟨w.heap.size, 2, none⟩ = some (.int .i64 b) := below_cell hb1 (by go_simp); have H1 : Hid (NS w0 wF w1 rb wb B l iv os (.slice oad os.length oc) ws) := H0.out.grow (below_seq (below_new _ _) hb1); obtain ⟨cs, fs, lt1⟩ := cells_of (l := [_, _, _]) H1.out.blk; have k0 := cs 0 _ rfl; have k1 := cs 1 _ rfl; have k2 := cs 2 _ rfl; have fr1 := fs 1; obtain ⟨ds, es, lt2⟩ := cells_of (l := intVs ws) H1.out.wth; have kw := ds k (.int .i64 (ws.getD k 0)) (by simp [intVs, List.getD, hkw]); have fw := es k; have lx : w.heap.size < w1.heap.size := World.block_lt_of_cell? w1 _ c0; clear hb1 cs fs ds es; rw [hin]; clear hin)
  go_wp2_with (go_at_call 102; refine (begins_any _ rb l os _ _ _ 13 a ((H1.out.setW k inn).rg) (by omega) (by omega)).mono ?_; rw [hq]; rintro r w3 ⟨rfl, hb3⟩; have H3 : Hid (NS w0 wF w3 rb wb B l iv os (.slice oad os.length oc) (ws.set k inn)) := (H1.out.setW k inn).grow hb3; replace c0 : w3.cell? ⟨w.heap.size, 0, none⟩ = some (.int .i64 14) := below_cell hb3 (by go_simp); replace c1 : w3.cell? ⟨w.heap.size, 1, none⟩ = some (.int .i64 a) := below_cell hb3 (by go_simp); replace c2 : w3.cell? ⟨w.heap.size, 2, none⟩ = some (.int .i64 b) := below_cell hb3 (by go_simp); obtain ⟨cs, fs, lt3⟩ := cells_of (l := [_, _, _]) H3.out.blk; replace k0 := cs 0 _ rfl; replace k1 := cs 1 _ rfl; replace k2 := cs 2 _ rfl; replace fr1 := fs 1; clear hb3 cs fs kw fw)
  go_ret
  exact ⟨rfl, _, H3.out⟩

set_option maxRecDepth 20000 in
set_option maxHeartbeats 4000000 in
theorem nested_14_back (w0 wF w : World) (rb wb B : Nat) (l : List In) (iv : Value) (os : List Nat) (ov : Value) (ws : List Int) (k : Nat) (a b : Int) (h : NS w0 wF w rb wb B l iv os ov ws) (hk : k < l.length) (hl : l.length ≤ 2000) (ho : os.length ≤ 2000) (hne : os ≠ []) (hq : beginOf (opens l os 13 a) = beginOf os.getLast?) (hbb : b ≠ beginOf os.getLast?) :
    Calls Tryd.prog 68 #[.pointer (some ⟨rb, 0, none⟩), .int .i64 k, .agg #[.int .i64 14, .int .i64 a, .int .i64 b]] w fun r w' => r = .returned (.int .i64 9) ∧ ∃ ov', NS w0 wF w' rb wb B l iv os ov' (ws.set k (beginOf os.getLast?)) := by
  obtain ⟨oad, oc, rfl⟩ := owns_value h.own
  have hkw : k < ws.length := by rw [h.len]; omega
  have lr : rb < w.heap.size := (Array.getElem?_eq_some_iff.1 h.blk).1
  have lw : wb < w.heap.size := (Array.getElem?_eq_some_iff.1 h.wth).1
  have lo := h.ord.2.1
  have n1 : ¬ w.heap.size = wb := by omega
  have n2 : ¬ rb = wb := by omega
  have n3 : ¬ w.heap.size = rb := by omega
  have H0 : Hid (NS w0 wF w rb wb B l iv os (.slice oad os.length oc) ws) := h
  clear h
  generalize hin : beginOf os.getLast? = inn
  have HIN : Hid (beginOf os.getLast? = inn) := hin
  rw [hin] at hq hbb
  have hlast : ∃ z : Nat, os.getLast? = some z := by
    cases hh : os.getLast? with
    | none => exact absurd (List.getLast?_eq_none_iff.1 hh) hne
    | some z => exact ⟨z, rfl⟩
  have hpos : ¬ inn = 0 := by
    obtain ⟨z, hz⟩ := hlast
    rw [hz] at hin
    have : (z : Int) + 1 = inn := hin
    omega
  have hi0 : (inn == 0) = false := by simpa using hpos
  clear hlast
  have hb1 : (b != inn) = true := by simpa using hbb
  have hb2 : (b == inn) = false := by simpa using hbb
  go_enter Tryd.func68, Tryd.ntmps68
  go_wp2_with (go_at_call 101; refine (innermost_any _ rb l os _ _ _ ((H0.out.grow (below_new _ _)).rg) (by omega)).mono ?_; rintro r w1 ⟨rfl, hb1⟩; have c0 : w1.cell? ⟨w.heap.size, 0, none⟩ = some (.int .i64 14) := below_cell hb1 (by go_simp); have c1 : w1.cell? ⟨w.heap.size, 1, none⟩ = some (.int .i64 a) := below_cell hb1 (by go_simp); have c2 : w1.cell? ⟨w.heap.size, 2, none⟩ = some (.int .i64 b) := below_cell hb1 (by go_simp); have H1 : Hid (NS w0 wF w1 rb wb B l iv os (.slice oad os.length oc) ws) := H0.out.grow (below_seq (below_new _ _) hb1); obtain ⟨cs, fs, lt1⟩ := cells_of (l := [_, _, _]) H1.out.blk; have k0 := cs 0 _ rfl; have k1 := cs 1 _ rfl; have k2 := cs 2 _ rfl; have fr1 := fs 1; obtain ⟨ds, es, lt2⟩ := cells_of (l := intVs ws) H1.out.wth; have kw := ds k (.int .i64 (ws.getD k 0)) (by simp [intVs, List.getD, hkw]); have fw := es k; have lx : w.heap.size < w1.heap.size := World.block_lt_of_cell? w1 _ c0; clear hb1 cs fs ds es; rw [hin]; clear hin)
  go_wp2_with (go_at_call 102; refine (begins_any _ rb l os _ _ _ 13 a ((H1.out.setW k inn).rg) (by omega) (by omega)).mono ?_; rw [hq]; rintro r w3 ⟨rfl, hb3⟩; have H3 : Hid (NS w0 wF w3 rb wb B l iv os (.slice oad os.length oc) (ws.set k inn)) := (H1.out.setW k inn).grow hb3; replace c0 : w3.cell? ⟨w.heap.size, 0, none⟩ = some (.int .i64 14) := below_cell hb3 (by go_simp); replace c1 : w3.cell? ⟨w.heap.size, 1, none⟩ = some (.int .i64 a) := below_cell hb3 (by go_simp); replace c2 : w3.cell? ⟨w.heap.size, 2, none⟩ = some (.int .i64 b) := below_cell hb3 (by go_simp); obtain ⟨cs, fs, lt3⟩ := cells_of (l := [_, _, _]) H3.out.blk; replace k0 := cs 0 _ rfl; replace k1 := cs 1 _ rfl; replace k2 := cs 2 _ rfl; replace fr1 := fs 1; clear hb3 cs fs kw fw)
  go_ret
  exact ⟨rfl, _, H3.out⟩

set_option maxRecDepth 20000 in
set_option maxHeartbeats 4000000 in
theorem nested_14_close (w0 wF w : World) (rb wb B : Nat) (l : List In) (iv : Value) (os : List Nat) (ov : Value) (ws : List Int) (k : Nat) (a b : Int) (h : NS w0 wF w rb wb B l iv os ov ws) (hk : k < l.length) (hl : l.length ≤ 2000) (ho : os.length ≤ 2000) (hne : os ≠ []) (hq : beginOf (opens l os 13 a) = beginOf os.getLast?) (hbb : b = beginOf os.getLast?) :
    Calls Tryd.prog 68 #[.pointer (some ⟨rb, 0, none⟩), .int .i64 k, .agg #[.int .i64 14, .int .i64 a, .int .i64 b]] w fun r w' => r = .returned (.int .i64 0) ∧ ∃ ov', NS w0 wF w' rb wb B l iv os.dropLast ov' (ws.set k (beginOf os.getLast?)) := by
  obtain ⟨oad, oc, rfl⟩ := owns_value h.own
  have hkw : k < ws.length := by rw [h.len]; omega
  have lr : rb < w.heap.size := (Array.getElem?_eq_some_iff.1 h.blk).1
  have lw : wb < w.heap.size := (Array.getElem?_eq_some_iff.1 h.wth).1
  have lo := h.ord.2.1
  have n1 : ¬ w.heap.size = wb := by omega
  have n2 : ¬ rb = wb := by omega
  have n3 : ¬ w.heap.size = rb := by omega
  have H0 : Hid (NS w0 wF w rb wb B l iv os (.slice oad os.length oc) ws) := h
  clear h
  generalize hin : beginOf os.getLast? = inn
  have HIN : Hid (beginOf os.getLast? = inn) := hin
  rw [hin] at hq hbb
  have hlast : ∃ z : Nat, os.getLast? = some z := by
    cases hh : os.getLast? with
    | none => exact absurd (List.getLast?_eq_none_iff.1 hh) hne
    | some z => exact ⟨z, rfl⟩
  have hpos : ¬ inn = 0 := by
    obtain ⟨z, hz⟩ := hlast
    rw [hz] at hin
    have : (z : Int) + 1 = inn := hin
    omega
  have hi0 : (inn == 0) = false := by simpa using hpos
  clear hlast
  have hcap : os.length ≤ oc := by
    obtain ⟨-, ⟨e, he⟩ | ⟨g, cap, cur, e, -, -, hc, -⟩⟩ := H0.out.own
    · exact absurd (List.length_eq_zero_iff.1 he) hne
    · cases e; exact hc
  obtain ⟨n, hn⟩ : ∃ n, os.length = n + 1 := ⟨os.length - 1, by have := List.length_pos_iff.2 hne; omega⟩
  go_enter Tryd.func68, Tryd.ntmps68
  go_wp2_with (go_at_call 101; refine (innermost_any _ rb l os _ _ _ ((H0.out.grow (below_new _ _)).rg) (by omega)).mono ?_; rintro r w1 ⟨rfl, hb1⟩; have c0 : w1.cell? ⟨w.heap.size, 0, none⟩ = some (.int .i64 14) := below_cell hb1 (by go_simp); have c1 : w1.cell? ⟨w.heap.size, 1, none⟩ = some (.int .i64 a) := below_cell hb1 (by go_simp); have c2 : w1.cell? ⟨w.heap.size, 2, none⟩ = some (.int .i64 b) := below_cell hb1 (by go_simp); have H1 : Hid (NS w0 wF w1 rb wb B l iv os (.slice oad os.length oc) ws) := H0.out.grow (below_seq (below_new _ _) hb1); obtain ⟨cs, fs, lt1⟩ := cells_of (l := [_, _, _]) H1.out.blk; have k0 := cs 0 _ rfl; have k1 := cs 1 _ rfl; have k2 := cs 2 _ rfl; have fr1 := fs 1; obtain ⟨ds, es, lt2⟩ := cells_of (l := intVs ws) H1.out.wth; have kw := ds k (.int .i64 (ws.getD k 0)) (by simp [intVs, List.getD, hkw]); have fw := es k; have lx : w.heap.size < w1.heap.size := World.block_lt_of_cell? w1 _ c0; clear hb1 cs fs ds es; rw [hin]; clear hin)
  go_wp2_with (go_at_call 102; refine (begins_any _ rb l os _ _ _ 13 a ((H1.out.setW k inn).rg) (by omega) (by omega)).mono ?_; rw [hq]; rintro r w3 ⟨rfl, hb3⟩; have H3 : Hid (NS w0 wF w3 rb wb B l iv os (.slice oad os.length oc) (ws.set k inn)) := (H1.out.setW k inn).grow hb3; replace c0 : w3.cell? ⟨w.heap.size, 0, none⟩ = some (.int .i64 14) := below_cell hb3 (by go_simp); replace c1 : w3.cell? ⟨w.heap.size, 1, none⟩ = some (.int .i64 a) := below_cell hb3 (by go_simp); replace c2 : w3.cell? ⟨w.heap.size, 2, none⟩ = some (.int .i64 b) := below_cell hb3 (by go_simp); obtain ⟨cs, fs, lt3⟩ := cells_of (l := [_, _, _]) H3.out.blk; replace k0 := cs 0 _ rfl; replace k1 := cs 1 _ rfl; replace k2 := cs 2 _ rfl; replace fr1 := fs 1; clear hb3 cs fs kw fw)
  go_wp2_with fail
  rw [hn] at k1 hcap
  clear c0 c1 c2 k0 k2
  go_region
  go_wp2_with fail
  go_ret
  have hw : Below w3.heap.size w3 w3.drew := (Below.refl _ w3).drew
  exact ⟨rfl, _, (H3.out.grow hw).push (w' := w3.drew) ⟨rfl, rfl, rfl, Nat.le_refl _, fun _ _ _ => rfl⟩ (ownsRow_shrink (by have := (H3.out.grow hw).own; rw [hn] at this ⊢; exact this) hn) (fun z hz => H3.out.low z (List.dropLast_subset _ hz))⟩

set_option maxRecDepth 20000 in
set_option maxHeartbeats 4000000 in
theorem nested_17_empty (w0 wF w : World) (rb wb B : Nat) (l : List In) (iv : Value) (os : List Nat) (ov : Value) (ws : List Int) (k : Nat) (a b : Int) (h : NS w0 wF w rb wb B l iv os ov ws) (hk : k < l.length) (_hl : l.length ≤ 2000) (ho : os.length ≤ 2000) (he : os = []) :
    Calls Tryd.prog 68 #[.pointer (some ⟨rb, 0, none⟩), .int .i64 k, .agg #[.int .i64 17, .int .i64 a, .int .i64 b]] w fun r w' => r = .returned (.int .i64 10) ∧ ∃ ov', NS w0 wF w' rb wb B l iv os ov' (ws.set k (beginOf os.getLast?)) := by
  obtain ⟨oad, oc, rfl⟩ := owns_value h.own
  have hkw : k < ws.length := by rw [h.len]; omega
  have lr : rb < w.heap.size := (Array.getElem?_eq_some_iff.1 h.blk).1
  have lw : wb < w.heap.size := (Array.getElem?_eq_some_iff.1 h.wth).1
  have lo := h.ord.2.1
  have n1 : ¬ w.heap.size = wb := by omega
  have n2 : ¬ rb = wb := by omega
  have n3 : ¬ w.heap.size = rb := by omega
  have H0 : Hid (NS w0 wF w rb wb B l iv os (.slice oad os.length oc) ws) := h
  clear h
  generalize hin : beginOf os.getLast? = inn
  have HIN : Hid (beginOf os.getLast? = inn) := hin
  have e0 : inn = 0 := by rw [← hin, he]; rfl
  subst e0
  go_enter Tryd.func68, Tryd.ntmps68
  go_wp2_with (go_at_call 101; refine (innermost_any _ rb l os _ _ _ ((H0.out.grow (below_new _ _)).rg) (by omega)).mono ?_; rintro r w1 ⟨rfl, hb1⟩; have c0 : w1.cell? ⟨w.heap.size, 0, none⟩ = some (.int .i64 17) := below_cell hb1 (by go_simp); have c1 : w1.cell? ⟨w.heap.size, 1, none⟩ = some (.int .i64 a) := below_cell hb1 (by go_simp); have c2 : w1.cell? ⟨w.heap.size, 2, none⟩ = some (.int .i64 b) := below_cell hb1 (by go_simp); have H1 : Hid (NS w0 wF w1 rb wb B l iv os (.slice oad os.length oc) ws) := H0.out.grow (below_seq (below_new _ _) hb1); obtain ⟨cs, fs, lt1⟩ := cells_of (l := [_, _, _]) H1.out.blk; have k0 := cs 0 _ rfl; have k1 := cs 1 _ rfl; have k2 := cs 2 _ rfl; have fr1 := fs 1; obtain ⟨ds, es, lt2⟩ := cells_of (l := intVs ws) H1.out.wth; have kw := ds k (.int .i64 (ws.getD k 0)) (by simp [intVs, List.getD, hkw]); have fw := es k; have lx : w.heap.size < w1.heap.size := World.block_lt_of_cell? w1 _ c0; clear hb1 cs fs ds es; rw [hin]; clear hin)
  go_ret
  exact ⟨rfl, _, H1.out.setW k 0⟩

set_option maxRecDepth 20000 in
set_option maxHeartbeats 4000000 in
theorem nested_17_bad (w0 wF w : World) (rb wb B : Nat) (l : List In) (iv : Value) (os : List Nat) (ov : Value) (ws : List Int) (k : Nat) (a b : Int) (h : NS w0 wF w rb wb B l iv os ov ws) (hk : k < l.length) (hl : l.length ≤ 2000) (ho : os.length ≤ 2000) (bq : Int) (hne : os ≠ []) (hq : beginOf (opens l os 16 a) = bq) (hbq : bq ≠ beginOf os.getLast?) :
    Calls Tryd.prog 68 #[.pointer (some ⟨rb, 0, none⟩), .int .i64 k, .agg #[.int .i64 17, .int .i64 a, .int .i64 b]] w fun r w' => r = .returned (.int .i64 10) ∧ ∃ ov', NS w0 wF w' rb wb B l iv os ov' (ws.set k (beginOf os.getLast?)) := by
  obtain ⟨oad, oc, rfl⟩ := owns_value h.own
  have hkw : k < ws.length := by rw [h.len]; omega
  have lr : rb < w.heap.size := (Array.getElem?_eq_some_iff.1 h.blk).1
  have lw : wb < w.heap.size := (Array.getElem?_eq_some_iff.1 h.wth).1
  have lo := h.ord.2.1
  have n1 : ¬ w.heap.size = wb := by omega
  have n2 : ¬ rb = wb := by omega
  have n3 : ¬ w.heap.size = rb := by omega
  have H0 : Hid (NS w0 wF w rb wb B l iv os (.slice oad os.length oc) ws) := h
  clear h
  generalize hin : beginOf os.getLast? = inn
  have HIN : Hid (beginOf os.getLast? = inn) := hin
  rw [hin] at hbq
  have hlast : ∃ z : Nat, os.getLast? = some z := by
    cases hh : os.getLast? with
    | none => exact absurd (List.getLast?_eq_none_iff.1 hh) hne
    | some z => exact ⟨z, rfl⟩
  have hpos : ¬ inn = 0 := by
    obtain ⟨z, hz⟩ := hlast
    rw [hz] at hin
    have : (z : Int) + 1 = inn := hin
    omega
  have hi0 : (inn == 0) = false := by simpa using hpos
  clear hlast
  have hb1 : (bq != inn) = true := by simpa using hbq
  have hb2 : (bq == inn) = false := by simpa using hbq
  go_enter Tryd.func68, Tryd.ntmps68
  go_wp2_with (go_at_call 101; refine (innermost_any _ rb l os _ _ _ ((H0.out.grow (below_new _ _)).rg) (by omega)).mono ?_; rintro r w1 ⟨rfl, hb1⟩; have c0 : w1.cell? ⟨w.heap.size, 0, none⟩ = some (.int .i64 17) := below_cell hb1 (by go_simp); have c1 : w1.cell? ⟨w.heap.size, 1, none⟩ = some (.int .i64 a) := below_cell hb1 (by go_simp); have c2 : w1.cell? ⟨w.heap.size, 2, none⟩ = some (.int .i64 b) := below_cell hb1 (by go_simp); have H1 : Hid (NS w0 wF w1 rb wb B l iv os (.slice oad os.length oc) ws) := H0.out.grow (below_seq (below_new _ _) hb1); obtain ⟨cs, fs, lt1⟩ := cells_of (l := [_, _, _]) H1.out.blk; have k0 := cs 0 _ rfl; have k1 := cs 1 _ rfl; have k2 := cs 2 _ rfl; have fr1 := fs 1; obtain ⟨ds, es, lt2⟩ := cells_of (l := intVs ws) H1.out.wth; have kw := ds k (.int .i64 (ws.getD k 0)) (by simp [intVs, List.getD, hkw]); have fw := es k; have lx : w.heap.size < w1.heap.size := World.block_lt_of_cell? w1 _ c0; clear hb1 cs fs ds es; rw [hin]; clear hin)
  go_wp2_with (go_at_call 102; refine (begins_any _ rb l os _ _ _ 16 a ((H1.out.setW k inn).rg) (by omega) (by omega)).mono ?_; rw [hq]; rintro r w3 ⟨rfl, hb3⟩; have H3 : Hid (NS w0 wF w3 rb wb B l iv os (.slice oad os.length oc) (ws.set k inn)) := (H1.out.setW k inn).grow hb3; replace c0 : w3.cell? ⟨w.heap.size, 0, none⟩ = some (.int .i64 17) := below_cell hb3 (by go_simp); replace c1 : w3.cell? ⟨w.heap.size, 1, none⟩ = some (.int .i64 a) := below_cell hb3 (by go_simp); replace c2 : w3.cell? ⟨w.heap.size, 2, none⟩ = some (.int .i64 b) := below_cell hb3 (by go_simp); obtain ⟨cs, fs, lt3⟩ := cells_of (l := [_, _, _]) H3.out.blk; replace k0 := cs 0 _ rfl; replace k1 := cs 1 _ rfl; replace k2 := cs 2 _ rfl; replace fr1 := fs 1; clear hb3 cs fs kw fw)
  go_ret
  exact ⟨rfl, _, H3.out⟩

set_option maxRecDepth 20000 in
set_option maxHeartbeats 4000000 in
theorem nested_17_close (w0 wF w : World) (rb wb B : Nat) (l : List In) (iv : Value) (os : List Nat) (ov : Value) (ws : List Int) (k : Nat) (a b : Int) (h : NS w0 wF w rb wb B l iv os ov ws) (hk : k < l.length) (hl : l.length ≤ 2000) (ho : os.length ≤ 2000) (hne : os ≠ []) (hq : beginOf (opens l os 16 a) = beginOf os.getLast?) :
    Calls Tryd.prog 68 #[.pointer (some ⟨rb, 0, none⟩), .int .i64 k, .agg #[.int .i64 17, .int .i64 a, .int .i64 b]] w fun r w' => r = .returned (.int .i64 0) ∧ ∃ ov', NS w0 wF w' rb wb B l iv os.dropLast ov' (ws.set k (beginOf os.getLast?)) := by
  obtain ⟨oad, oc, rfl⟩ := owns_value h.own
  have hkw : k < ws.length := by rw [h.len]; omega
  have lr : rb < w.heap.size := (Array.getElem?_eq_some_iff.1 h.blk).1
  have lw : wb < w.heap.size := (Array.getElem?_eq_some_iff.1 h.wth).1
  have lo := h.ord.2.1
  have n1 : ¬ w.heap.size = wb := by omega
  have n2 : ¬ rb = wb := by omega
  have n3 : ¬ w.heap.size = rb := by omega
  have H0 : Hid (NS w0 wF w rb wb B l iv os (.slice oad os.length oc) ws) := h
  clear h
  generalize hin : beginOf os.getLast? = inn
  have HIN : Hid (beginOf os.getLast? = inn) := hin
  rw [hin] at hq
  have hlast : ∃ z : Nat, os.getLast? = some z := by
    cases hh : os.getLast? with
    | none => exact absurd (List.getLast?_eq_none_iff.1 hh) hne
    | some z => exact ⟨z, rfl⟩
  have hpos : ¬ inn = 0 := by
    obtain ⟨z, hz⟩ := hlast
    rw [hz] at hin
    have : (z : Int) + 1 = inn := hin
    omega
  have hi0 : (inn == 0) = false := by simpa using hpos
  clear hlast
  have hcap : os.length ≤ oc := by
    obtain ⟨-, ⟨e, he⟩ | ⟨g, cap, cur, e, -, -, hc, -⟩⟩ := H0.out.own
    · exact absurd (List.length_eq_zero_iff.1 he) hne
    · cases e; exact hc
  obtain ⟨n, hn⟩ : ∃ n, os.length = n + 1 := ⟨os.length - 1, by have := List.length_pos_iff.2 hne; omega⟩
  go_enter Tryd.func68, Tryd.ntmps68
  go_wp2_with (go_at_call 101; refine (innermost_any _ rb l os _ _ _ ((H0.out.grow (below_new _ _)).rg) (by omega)).mono ?_; rintro r w1 ⟨rfl, hb1⟩; have c0 : w1.cell? ⟨w.heap.size, 0, none⟩ = some (.int .i64 17) := below_cell hb1 (by go_simp); have c1 : w1.cell? ⟨w.heap.size, 1, none⟩ = some (.int .i64 a) := below_cell hb1 (by go_simp); have c2 : w1.cell? ⟨w.heap.size, 2, none⟩ = some (.int .i64 b) := below_cell hb1 (by go_simp); have H1 : Hid (NS w0 wF w1 rb wb B l iv os (.slice oad os.length oc) ws) := H0.out.grow (below_seq (below_new _ _) hb1); obtain ⟨cs, fs, lt1⟩ := cells_of (l := [_, _, _]) H1.out.blk; have k0 := cs 0 _ rfl; have k1 := cs 1 _ rfl; have k2 := cs 2 _ rfl; have fr1 := fs 1; obtain ⟨ds, es, lt2⟩ := cells_of (l := intVs ws) H1.out.wth; have kw := ds k (.int .i64 (ws.getD k 0)) (by simp [intVs, List.getD, hkw]); have fw := es k; have lx : w.heap.size < w1.heap.size := World.block_lt_of_cell? w1 _ c0; clear hb1 cs fs ds es; rw [hin]; clear hin)
  go_wp2_with (go_at_call 102; refine (begins_any _ rb l os _ _ _ 16 a ((H1.out.setW k inn).rg) (by omega) (by omega)).mono ?_; rw [hq]; rintro r w3 ⟨rfl, hb3⟩; have H3 : Hid (NS w0 wF w3 rb wb B l iv os (.slice oad os.length oc) (ws.set k inn)) := (H1.out.setW k inn).grow hb3; replace c0 : w3.cell? ⟨w.heap.size, 0, none⟩ = some (.int .i64 17) := below_cell hb3 (by go_simp); replace c1 : w3.cell? ⟨w.heap.size, 1, none⟩ = some (.int .i64 a) := below_cell hb3 (by go_simp); replace c2 : w3.cell? ⟨w.heap.size, 2, none⟩ = some (.int .i64 b) := below_cell hb3 (by go_simp); obtain ⟨cs, fs, lt3⟩ := cells_of (l := [_, _, _]) H3.out.blk; replace k0 := cs 0 _ rfl; replace k1 := cs 1 _ rfl; replace k2 := cs 2 _ rfl; replace fr1 := fs 1; clear hb3 cs fs kw fw)
  go_wp2_with fail
  rw [hn] at k1 hcap
  clear c0 c1 c2 k0 k2
  go_region
  go_wp2_with fail
  go_ret
  have hw : Below w3.heap.size w3 w3.drew := (Below.refl _ w3).drew
  exact ⟨rfl, _, (H3.out.grow hw).push (w' := w3.drew) ⟨rfl, rfl, rfl, Nat.le_refl _, fun _ _ _ => rfl⟩ (ownsRow_shrink (by have := (H3.out.grow hw).own; rw [hn] at this ⊢; exact this) hn) (fun z hz => H3.out.low z (List.dropLast_subset _ hz))⟩

end Go.Proofs.YtgemadoieielcacDoor
