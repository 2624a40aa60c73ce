import Derived.Test.YtgemadoieielcacDoorGNestA
namespace Go.Proofs.YtgemadoieielcacDoor
open Go.ChangeShapes Go.WideShapes Go.ChangeAt Go.RowKit

set_option maxRecDepth 20000 in
set_option maxHeartbeats 4000000 in
theorem nested_13_twice (w0 wF w : World) (rb wb B : Nat) (l : List In) (iv : Value) (os : List Nat) (ov : Value) (ws : List Int) (k : Nat) (a b : Int) (h : NS w0 wF w rb wb B l iv os ov ws) (hk : k < l.length) (hl : l.length ≤ 2000) (ho : os.length ≤ 2000) (q : Nat) (hq : opens l os 13 a = some q) :
    Calls Tryd.prog 68 #[.pointer (some ⟨rb, 0, none⟩), .int .i64 k, .agg #[.int .i64 13, .int .i64 a, .int .i64 b]] w fun r w' => r = .returned (.int .i64 9) ∧ ∃ ov', NS w0 wF w' rb wb B l iv os ov' (ws.set k (beginOf os.getLast?)) := by
  obtain ⟨oad, oc, rfl⟩ := owns_value h.own
  have hkw : k < ws.length := by rw [h.len]; omega
  have lr : rb < w.heap.size := (Array.getElem?_eq_some_iff.1 h.blk).1
  have lw : wb < w.heap.size := (Array.getElem?_eq_some_iff.1 h.wth).1
  have lo := h.ord.2.1
  have n1 : ¬ w.heap.size = wb := by omega
  have n2 : ¬ rb = wb := by omega
  have n3 : ¬ w.heap.size = rb := by omega
  have H0 : Hid (NS w0 wF w rb wb B l iv os (.slice oad os.length oc) ws) := h
  clear h
  generalize hin : beginOf os.getLast? = inn
  have HIN : Hid (beginOf os.getLast? = inn) := hin
  have hz : ¬ ((q : Int) + 1 = 0) := by omega
  have hzb : (((q : Int) + 1) == 0) = false := by simpa using hz
  have hzn : (((q : Int) + 1) != 0) = true := by simpa using hz
  go_enter Tryd.func68, Tryd.ntmps68
  go_wp2_with (go_at_call 101; refine (innermost_any _ rb l os _ _ _ ((H0.out.grow (below_new _ _)).rg) (by omega)).mono ?_; rintro r w1 ⟨rfl, hb1⟩; have c0 : w1.cell? ⟨w.heap.size, 0, none⟩ = some (.int .i64 13) := below_cell hb1 (by go_simp); have c1 : w1.cell? ⟨w.heap.size, 1, none⟩ = some (.int .i64 a) := below_cell hb1 (by go_simp); have c2 : w1.cell? ⟨w.heap.size, 2, none⟩ = some (.int .i64 b) := below_cell hb1 (by go_simp); have H1 : Hid (NS w0 wF w1 rb wb B l iv os (.slice oad os.length oc) ws) := H0.out.grow (below_seq (below_new _ _) hb1); obtain ⟨cs, fs, lt1⟩ := cells_of (l := [_, _, _]) H1.out.blk; have k0 := cs 0 _ rfl; have k1 := cs 1 _ rfl; have k2 := cs 2 _ rfl; have fr1 := fs 1; obtain ⟨ds, es, lt2⟩ := cells_of (l := intVs ws) H1.out.wth; have kw := ds k (.int .i64 (ws.getD k 0)) (by simp [intVs, List.getD, hkw]); have fw := es k; have lx : w.heap.size < w1.heap.size := World.block_lt_of_cell? w1 _ c0; clear hb1 cs fs ds es; rw [hin]; clear hin)
  go_wp2_with (go_at_call 102; refine (begins_any _ rb l os _ _ _ 13 a ((H1.out.setW k inn).rg) (by omega) (by omega)).mono ?_; rw [hq]; rintro r w3 ⟨rfl, hb3⟩; have H3 : Hid (NS w0 wF w3 rb wb B l iv os (.slice oad os.length oc) (ws.set k inn)) := (H1.out.setW k inn).grow hb3; replace c0 : w3.cell? ⟨w.heap.size, 0, none⟩ = some (.int .i64 13) := below_cell hb3 (by go_simp); replace c1 : w3.cell? ⟨w.heap.size, 1, none⟩ = some (.int .i64 a) := below_cell hb3 (by go_simp); replace c2 : w3.cell? ⟨w.heap.size, 2, none⟩ = some (.int .i64 b) := below_cell hb3 (by go_simp); obtain ⟨cs, fs, lt3⟩ := cells_of (l := [_, _, _]) H3.out.blk; replace k0 := cs 0 _ rfl; replace k1 := cs 1 _ rfl; replace k2 := cs 2 _ rfl; replace fr1 := fs 1; clear hb3 cs fs kw fw; dsimp only [beginOf])
  go_wp2_with (go_at_call 103; refine (ofRegion_any _ 13).mono ?_; rintro r w4 ⟨rfl, rfl⟩)
  go_ret
  exact ⟨rfl, _, H3.out⟩

set_option maxRecDepth 20000 in
set_option maxHeartbeats 4000000 in
theorem nested_13_open (w0 wF w : World) (rb wb B : Nat) (l : List In) (iv : Value) (os : List Nat) (ov : Value) (ws : List Int) (k : Nat) (a b : Int) (h : NS w0 wF w rb wb B l iv os ov ws) (hk : k < l.length) (hl : l.length ≤ 2000) (ho : os.length ≤ 2000) (hq : opens l os 13 a = none) :
    Calls Tryd.prog 68 #[.pointer (some ⟨rb, 0, none⟩), .int .i64 k, .agg #[.int .i64 13, .int .i64 a, .int .i64 b]] w fun r w' => r = .returned (.int .i64 0) ∧ ∃ ov', NS w0 wF w' rb wb B l iv (os ++ [k]) ov' (ws.set k (beginOf os.getLast?)) := by
  obtain ⟨oad, oc, rfl⟩ := owns_value h.own
  have hkw : k < ws.length := by rw [h.len]; omega
  have lr : rb < w.heap.size := (Array.getElem?_eq_some_iff.1 h.blk).1
  have lw : wb < w.heap.size := (Array.getElem?_eq_some_iff.1 h.wth).1
  have lo := h.ord.2.1
  have n1 : ¬ w.heap.size = wb := by omega
  have n2 : ¬ rb = wb := by omega
  have n3 : ¬ w.heap.size = rb := by omega
  have H0 : Hid (NS w0 wF w rb wb B l iv os (.slice oad os.length oc) ws) := h
  clear h
  generalize hin : beginOf os.getLast? = inn
  have HIN : Hid (beginOf os.getLast? = inn) := hin
  obtain ⟨i0, hi0, hz0, hz1, hz2⟩ := info_parts info3
  go_enter Tryd.func68, Tryd.ntmps68
  go_wp2_with (go_at_call 101; refine (innermost_any _ rb l os _ _ _ ((H0.out.grow (below_new _ _)).rg) (by omega)).mono ?_; rintro r w1 ⟨rfl, hb1⟩; have c0 : w1.cell? ⟨w.heap.size, 0, none⟩ = some (.int .i64 13) := below_cell hb1 (by go_simp); have c1 : w1.cell? ⟨w.heap.size, 1, none⟩ = some (.int .i64 a) := below_cell hb1 (by go_simp); have c2 : w1.cell? ⟨w.heap.size, 2, none⟩ = some (.int .i64 b) := below_cell hb1 (by go_simp); have H1 : Hid (NS w0 wF w1 rb wb B l iv os (.slice oad os.length oc) ws) := H0.out.grow (below_seq (below_new _ _) hb1); obtain ⟨cs, fs, lt1⟩ := cells_of (l := [_, _, _]) H1.out.blk; have k0 := cs 0 _ rfl; have k1 := cs 1 _ rfl; have k2 := cs 2 _ rfl; have fr1 := fs 1; obtain ⟨ds, es, lt2⟩ := cells_of (l := intVs ws) H1.out.wth; have kw := ds k (.int .i64 (ws.getD k 0)) (by simp [intVs, List.getD, hkw]); have fw := es k; have lx : w.heap.size < w1.heap.size := World.block_lt_of_cell? w1 _ c0; clear hb1 cs fs ds es; rw [hin]; clear hin)
  go_wp2_with (first
    | (go_at_call 102; refine (begins_any _ rb l os _ _ _ 13 a ((H1.out.setW k inn).rg) (by omega) (by omega)).mono ?_; rw [hq]; rintro r w3 ⟨rfl, hb3⟩; have H3 : Hid (NS w0 wF w3 rb wb B l iv os (.slice oad os.length oc) (ws.set k inn)) := (H1.out.setW k inn).grow hb3; replace c0 : w3.cell? ⟨w.heap.size, 0, none⟩ = some (.int .i64 13) := below_cell hb3 (by go_simp); replace c1 : w3.cell? ⟨w.heap.size, 1, none⟩ = some (.int .i64 a) := below_cell hb3 (by go_simp); replace c2 : w3.cell? ⟨w.heap.size, 2, none⟩ = some (.int .i64 b) := below_cell hb3 (by go_simp); obtain ⟨cs, fs, lt3⟩ := cells_of (l := [_, _, _]) H3.out.blk; replace k0 := cs 0 _ rfl; replace k1 := cs 1 _ rfl; replace k2 := cs 2 _ rfl; replace fr1 := fs 1; clear hb3 cs fs kw fw; dsimp only [beginOf])
    | (at_builtin; obtain ⟨v4, w4, hrun, ho4, hg4, -⟩ := append_two (P := Tryd.prog) (w3.alloc (.cells #[.int .i64 ((k : Int) + 1)] 3)) B w3.heap.size 23 23 3 i0 _ 1 8 Tryd.underlying23 hi0 hz0 hz1 hz2 rfl (by decide) _ os.length (posVs os) (H3.out.grow (below_new _ _)).own _ 1 [.int .i64 ((k : Int) + 1)] (World.ownsRow_lit w3 #[.int .i64 ((k : Int) + 1)] 1 (Nat.le_refl _) (by decide) rfl) (by intro u hu; simp at hu; subst hu; rfl) (by unfold maxLen; omega) (by omega) (Nat.le_trans H3.out.bas (by simp)); obtain ⟨vad, vcap, rfl⟩ := owns_value ho4; have HP : Hid (NS w0 wF (w4.setCell ⟨rb, 1, none⟩ (.slice vad (os.length + 1) vcap)) rb wb B l iv (os ++ [k]) (.slice vad (os.length + 1) vcap) (ws.set k inn)) := (H3.out.grow (below_new _ _)).push hg4 (by rw [List.length_append, posVs_append]; exact ho4) (by intro z hz; rcases List.mem_append.1 hz with hz | hz; exact H3.out.low z hz; simp at hz; subst hz; exact hk); have hblk4 : w4.heap[rb]? = some (.cells #[iv, .slice oad os.length oc, .slice (some ⟨wb, 0, none⟩) (l.length + 1) (l.length + 1)] 129 (0, 0)) := (hg4.block rb (by simp; omega) (fun e => by have := (H3.out.own.lt rb e.symm).1; have := H3.out.ord; omega)).trans (H3.out.grow (below_new _ _)).blk; obtain ⟨cs, fs, lt4⟩ := cells_of (l := [_, _, _]) hblk4; replace k1 := cs 1 _ rfl; replace fr1 := fs 1; refine append_known rfl (.tmp 36) (.tmp 39) 23 rfl rfl rfl hrun ?_; clear hrun ho4 hg4 hblk4 cs fs c0 c1 c2 k0 k2 lx))
  go_ret
  exact ⟨rfl, _, HP.out⟩

set_option maxRecDepth 20000 in
set_option maxHeartbeats 4000000 in
theorem nested_16_twice (w0 wF w : World) (rb wb B : Nat) (l : List In) (iv : Value) (os : List Nat) (ov : Value) (ws : List Int) (k : Nat) (a b : Int) (h : NS w0 wF w rb wb B l iv os ov ws) (hk : k < l.length) (hl : l.length ≤ 2000) (ho : os.length ≤ 2000) (q : Nat) (hq : opens l os 16 a = some q) :
    Calls Tryd.prog 68 #[.pointer (some ⟨rb, 0, none⟩), .int .i64 k, .agg #[.int .i64 16, .int .i64 a, .int .i64 b]] w fun r w' => r = .returned (.int .i64 10) ∧ ∃ ov', NS w0 wF w' rb wb B l iv os ov' (ws.set k (beginOf os.getLast?)) := by
  obtain ⟨oad, oc, rfl⟩ := owns_value h.own
  have hkw : k < ws.length := by rw [h.len]; omega
  have lr : rb < w.heap.size := (Array.getElem?_eq_some_iff.1 h.blk).1
  have lw : wb < w.heap.size := (Array.getElem?_eq_some_iff.1 h.wth).1
  have lo := h.ord.2.1
  have n1 : ¬ w.heap.size = wb := by omega
  have n2 : ¬ rb = wb := by omega
  have n3 : ¬ w.heap.size = rb := by omega
  have H0 : Hid (NS w0 wF w rb wb B l iv os (.slice oad os.length oc) ws) := h
  clear h
  generalize hin : beginOf os.getLast? = inn
  have HIN : Hid (beginOf os.getLast? = inn) := hin
  have hz : ¬ ((q : Int) + 1 = 0) := by omega
  have hzb : (((q : Int) + 1) == 0) = false := by simpa using hz
  have hzn : (((q : Int) + 1) != 0) = true := by simpa using hz
  go_enter Tryd.func68, Tryd.ntmps68
  go_wp2_with (go_at_call 101; refine (innermost_any _ rb l os _ _ _ ((H0.out.grow (below_new _ _)).rg) (by omega)).mono ?_; rintro r w1 ⟨rfl, hb1⟩; have c0 : w1.cell? ⟨w.heap.size, 0, none⟩ = some (.int .i64 16) := below_cell hb1 (by go_simp); have c1 : w1.cell? ⟨w.heap.size, 1, none⟩ = some (.int .i64 a) := below_cell hb1 (by go_simp); have c2 : w1.cell? ⟨w.heap.size, 2, none⟩ = some (.int .i64 b) := below_cell hb1 (by go_simp); have H1 : Hid (NS w0 wF w1 rb wb B l iv os (.slice oad os.length oc) ws) := H0.out.grow (below_seq (below_new _ _) hb1); obtain ⟨cs, fs, lt1⟩ := cells_of (l := [_, _, _]) H1.out.blk; have k0 := cs 0 _ rfl; have k1 := cs 1 _ rfl; have k2 := cs 2 _ rfl; have fr1 := fs 1; obtain ⟨ds, es, lt2⟩ := cells_of (l := intVs ws) H1.out.wth; have kw := ds k (.int .i64 (ws.getD k 0)) (by simp [intVs, List.getD, hkw]); have fw := es k; have lx : w.heap.size < w1.heap.size := World.block_lt_of_cell? w1 _ c0; clear hb1 cs fs ds es; rw [hin]; clear hin)
  go_wp2_with (go_at_call 102; refine (begins_any _ rb l os _ _ _ 16 a ((H1.out.setW k inn).rg) (by omega) (by omega)).mono ?_; rw [hq]; rintro r w3 ⟨rfl, hb3⟩; have H3 : Hid (NS w0 wF w3 rb wb B l iv os (.slice oad os.length oc) (ws.set k inn)) := (H1.out.setW k inn).grow hb3; replace c0 : w3.cell? ⟨w.heap.size, 0, none⟩ = some (.int .i64 16) := below_cell hb3 (by go_simp); replace c1 : w3.cell? ⟨w.heap.size, 1, none⟩ = some (.int .i64 a) := below_cell hb3 (by go_simp); replace c2 : w3.cell? ⟨w.heap.size, 2, none⟩ = some (.int .i64 b) := below_cell hb3 (by go_simp); obtain ⟨cs, fs, lt3⟩ := cells_of (l := [_, _, _]) H3.out.blk; replace k0 := cs 0 _ rfl; replace k1 := cs 1 _ rfl; replace k2 := cs 2 _ rfl; replace fr1 := fs 1; clear hb3 cs fs kw fw; dsimp only [beginOf])
  go_wp2_with (go_at_call 103; refine (ofRegion_any _ 16).mono ?_; rintro r w4 ⟨rfl, rfl⟩)
  go_ret
  exact ⟨rfl, _, H3.out⟩

set_option maxRecDepth 20000 in
set_option maxHeartbeats 4000000 in
theorem nested_16_open (w0 wF w : World) (rb wb B : Nat) (l : List In) (iv : Value) (os : List Nat) (ov : Value) (ws : List Int) (k : Nat) (a b : Int) (h : NS w0 wF w rb wb B l iv os ov ws) (hk : k < l.length) (hl : l.length ≤ 2000) (ho : os.length ≤ 2000) (hq : opens l os 16 a = none) :
    Calls Tryd.prog 68 #[.pointer (some ⟨rb, 0, none⟩), .int .i64 k, .agg #[.int .i64 16, .int .i64 a, .int .i64 b]] w fun r w' => r = .returned (.int .i64 0) ∧ ∃ ov', NS w0 wF w' rb wb B l iv (os ++ [k]) ov' (ws.set k (beginOf os.getLast?)) := by
  obtain ⟨oad, oc, rfl⟩ := owns_value h.own
  have hkw : k < ws.length := by rw [h.len]; omega
  have lr : rb < w.heap.size := (Array.getElem?_eq_some_iff.1 h.blk).1
  have lw : wb < w.heap.size := (Array.getElem?_eq_some_iff.1 h.wth).1
  have lo := h.ord.2.1
  have n1 : ¬ w.heap.size = wb := by omega
  have n2 : ¬ rb = wb := by omega
  have n3 : ¬ w.heap.size = rb := by omega
  have H0 : Hid (NS w0 wF w rb wb B l iv os (.slice oad os.length oc) ws) := h
  clear h
  generalize hin : beginOf os.getLast? = inn
  have HIN : Hid (beginOf os.getLast? = inn) := hin
  obtain ⟨i0, hi0, hz0, hz1, hz2⟩ := info_parts info3
  go_enter Tryd.func68, Tryd.ntmps68
  go_wp2_with (go_at_call 101; refine (innermost_any _ rb l os _ _ _ ((H0.out.grow (below_new _ _)).rg) (by omega)).mono ?_; rintro r w1 ⟨rfl, hb1⟩; have c0 : w1.cell? ⟨w.heap.size, 0, none⟩ = some (.int .i64 16) := below_cell hb1 (by go_simp); have c1 : w1.cell? ⟨w.heap.size, 1, none⟩ = some (.int .i64 a) := below_cell hb1 (by go_simp); have c2 : w1.cell? ⟨w.heap.size, 2, none⟩ = some (.int .i64 b) := below_cell hb1 (by go_simp); have H1 : Hid (NS w0 wF w1 rb wb B l iv os (.slice oad os.length oc) ws) := H0.out.grow (below_seq (below_new _ _) hb1); obtain ⟨cs, fs, lt1⟩ := cells_of (l := [_, _, _]) H1.out.blk; have k0 := cs 0 _ rfl; have k1 := cs 1 _ rfl; have k2 := cs 2 _ rfl; have fr1 := fs 1; obtain ⟨ds, es, lt2⟩ := cells_of (l := intVs ws) H1.out.wth; have kw := ds k (.int .i64 (ws.getD k 0)) (by simp [intVs, List.getD, hkw]); have fw := es k; have lx : w.heap.size < w1.heap.size := World.block_lt_of_cell? w1 _ c0; clear hb1 cs fs ds es; rw [hin]; clear hin)
  go_wp2_with (first
    | (go_at_call 102; refine (begins_any _ rb l os _ _ _ 16 a ((H1.out.setW k inn).rg) (by omega) (by omega)).mono ?_; rw [hq]; rintro r w3 ⟨rfl, hb3⟩; have H3 : Hid (NS w0 wF w3 rb wb B l iv os (.slice oad os.length oc) (ws.set k inn)) := (H1.out.setW k inn).grow hb3; replace c0 : w3.cell? ⟨w.heap.size, 0, none⟩ = some (.int .i64 16) := below_cell hb3 (by go_simp); replace c1 : w3.cell? ⟨w.heap.size, 1, none⟩ = some (.int .i64 a) := below_cell hb3 (by go_simp); replace c2 : w3.cell? ⟨w.heap.size, 2, none⟩ = some (.int .i64 b) := below_cell hb3 (by go_simp); obtain ⟨cs, fs, lt3⟩ := cells_of (l := [_, _, _]) H3.out.blk; replace k0 := cs 0 _ rfl; replace k1 := cs 1 _ rfl; replace k2 := cs 2 _ rfl; replace fr1 := fs 1; clear hb3 cs fs kw fw; dsimp only [beginOf])
    | (at_builtin; obtain ⟨v4, w4, hrun, ho4, hg4, -⟩ := append_two (P := Tryd.prog) (w3.alloc (.cells #[.int .i64 ((k : Int) + 1)] 3)) B w3.heap.size 23 23 3 i0 _ 1 8 Tryd.underlying23 hi0 hz0 hz1 hz2 rfl (by decide) _ os.length (posVs os) (H3.out.grow (below_new _ _)).own _ 1 [.int .i64 ((k : Int) + 1)] (World.ownsRow_lit w3 #[.int .i64 ((k : Int) + 1)] 1 (Nat.le_refl _) (by decide) rfl) (by intro u hu; simp at hu; subst hu; rfl) (by unfold maxLen; omega) (by omega) (Nat.le_trans H3.out.bas (by simp)); obtain ⟨vad, vcap, rfl⟩ := owns_value ho4; have HP : Hid (NS w0 wF (w4.setCell ⟨rb, 1, none⟩ (.slice vad (os.length + 1) vcap)) rb wb B l iv (os ++ [k]) (.slice vad (os.length + 1) vcap) (ws.set k inn)) := (H3.out.grow (below_new _ _)).push hg4 (by rw [List.length_append, posVs_append]; exact ho4) (by intro z hz; rcases List.mem_append.1 hz with hz | hz; exact H3.out.low z hz; simp at hz; subst hz; exact hk); have hblk4 : w4.heap[rb]? = some (.cells #[iv, .slice oad os.length oc, .slice (some ⟨wb, 0, none⟩) (l.length + 1) (l.length + 1)] 129 (0, 0)) := (hg4.block rb (by simp; omega) (fun e => by have := (H3.out.own.lt rb e.symm).1; have := H3.out.ord; omega)).trans (H3.out.grow (below_new _ _)).blk; obtain ⟨cs, fs, lt4⟩ := cells_of (l := [_, _, _]) hblk4; replace k1 := cs 1 _ rfl; replace fr1 := fs 1; refine append_known rfl (.tmp 36) (.tmp 39) 23 rfl rfl rfl hrun ?_; clear hrun ho4 hg4 hblk4 cs fs c0 c1 c2 k0 k2 lx))
  go_ret
  exact ⟨rfl, _, HP.out⟩

end Go.Proofs.YtgemadoieielcacDoor
