import Derived.Test.YtgemadoieielcacDoorGRIm
namespace Go.Proofs.YtgemadoieielcacDoor
open Go.ChangeShapes Go.WideShapes Go.ChangeAt Go.RowKit

set_option maxRecDepth 20000 in
set_option maxHeartbeats 16000000 in
theorem ri_e13 : RIp.1 := by
  intro w l ic hl c k hmm HT _ _ hg w1 _ _ u4 u5 u6 u27 u28 u29 u30 u31 u32 u33 u34 u35 u36 u37 u38 _ _ _ _ _ HFO w2 mb ll1 wr u2 u9 u10 u11 u12 u45 u46 u47 u48 u49 u50 u51 u52 u53 u54 u55 u56 u57 u58 u59 u60 u61 u62 u63 u64 u65 u66 u67 u68 u69 u70 u71 u72 u73 u74 u75 u76 u77 u78 u79 u80 u81 u82 u83 u84 u85 u86 u87 u88 u89 u90 u91 u92 u93 u94 u95 u96 u97 u98 u99 u100 u101 u102 u103 u104 u105 u106 u107 u108 u109 u110 u111 u112 u113 u114 u115 u116 u117 u118 u119 u120 u121 u122 u123 u124 u125 u126 u127 u128 u129 u130 u131 u132 u133 u134 u135 u136 u137 u138 u139 u140 u141 u142 u143 u144 u145 u146 u147 u148 u149 u150 j rs gv hj hrl hlt b o HK _ _ HI xa xb x1 x2 ll2 cl ol2 fo ml2 cm0 cm1 fm1 ord2 hol ad0 cap0 co x0 HS hamong
  have HD : Hid (_ = _) := (HS.out.1 0 ([] ++ [j]) (by rw [docOf_13, if_neg (by rw [hamong]; decide)])).2 rfl
  go_wp2_with (first | (go_at_call 55; refine (among_any _ (mb + 1) w.heap.size wr.heap.size l [] (.slice (some ⟨b, o, none⟩) l.length ic) _ 13 13 xa xb (below_cell (below_new _ _) co) (below_cell (below_new _ _) cl) (by go_simp) (by go_simp) (by go_simp) (HK.out.1.below (below_seq HS.out.2.bel (below_new _ _))) (at_of_own (HS.out.2.grow (below_new _ _)).own) HS.out.2.low (by omega) (by omega)).mono ?_; rw [hamong]; rintro r w3 ⟨rfl, hb3⟩; have d0 : w3.cell? ⟨wr.heap.size, 0, none⟩ = some (.int .i64 13) := below_cell hb3 (by go_simp); have H3 : Hid (RS w w3 mb (.slice (some ⟨b, o, none⟩) l.length ic) l [] _ rs gv) := HS.out.2.grow (below_seq (below_new _ _) hb3); obtain ⟨os3, of3, ol3⟩ := cells_of (l := [_]) H3.out.opn; have co3 := os3 0 _ rfl; have fo3 := of3 0; clear os3 of3; clear hb3) | (at_builtin; refine wp_push2 rfl (.tmp 75) (.tmp 77) rfl (mb + 2) _ (natI []) (j : Int) w3.heap.size 0 rfl (by rw [natI_length]; rfl) rfl rfl (by have how := H3.out.own; exact how) H3.out.bas (by omega) ?_; intro ad4 c4 w4 ho4 hg4 hv4; have HP : Hid (RS w (w4.setCell ⟨mb + 1, 0, none⟩ (.slice ad4 (0 + 1) c4)) mb (.slice (some ⟨b, o, none⟩) l.length ic) l ([] ++ [j]) (.slice ad4 (0 + 1) c4) rs gv) := (H3.out.grow (below_new _ _)).push hg4 (by rw [List.length_append, natI_append]; exact ho4) hv4 (by intro q hq; rcases List.mem_append.1 hq with hq | hq; exact H3.out.low q hq; simp at hq; subst hq; exact hlt); have hop4 := (hg4.block (mb + 1) (by simp; omega) (fun e => by have := (H3.out.own.lt (mb + 1) e.symm).1; omega)).trans (H3.out.grow (below_new _ _)).opn; obtain ⟨os4, of4, ol4⟩ := cells_of (l := [_]) hop4; have co4 := os4 0 _ rfl; have fo4 := of4 0; clear os4 of4 hop4 ho4 hg4 hv4 co3 fo3))
  go_roundw
  case rel => exact ⟨j + 1, [] ++ [j], _, rs, gv, by omega, by go_num, by have := HD.out; rw [if_neg (by decide)] at this; exact this, by rw [List.length_append]; first | (simp; done) | (simp; omega), by omega, HP.out⟩
  case measure => simp [intOf]; omega

set_option maxRecDepth 20000 in
set_option maxHeartbeats 16000000 in
theorem ri_e16 : RIp.2.1 := by
  intro w l ic hl c k hmm HT _ _ hg w1 _ _ u4 u5 u6 u27 u28 u29 u30 u31 u32 u33 u34 u35 u36 u37 u38 _ _ _ _ _ HFO w2 mb ll1 wr u2 u9 u10 u11 u12 u45 u46 u47 u48 u49 u50 u51 u52 u53 u54 u55 u56 u57 u58 u59 u60 u61 u62 u63 u64 u65 u66 u67 u68 u69 u70 u71 u72 u73 u74 u75 u76 u77 u78 u79 u80 u81 u82 u83 u84 u85 u86 u87 u88 u89 u90 u91 u92 u93 u94 u95 u96 u97 u98 u99 u100 u101 u102 u103 u104 u105 u106 u107 u108 u109 u110 u111 u112 u113 u114 u115 u116 u117 u118 u119 u120 u121 u122 u123 u124 u125 u126 u127 u128 u129 u130 u131 u132 u133 u134 u135 u136 u137 u138 u139 u140 u141 u142 u143 u144 u145 u146 u147 u148 u149 u150 j rs gv hj hrl hlt b o HK _ _ HI xa xb x1 x2 ll2 cl ol2 fo ml2 cm0 cm1 fm1 ord2 hol ad0 cap0 co x0 HS h13 hamong
  have HD : Hid (_ = _) := (HS.out.1 0 ([] ++ [j]) (by rw [docOf_16, if_neg (by rw [hamong]; decide)])).2 rfl
  go_wp2_with (first | (go_at_call 55; refine (among_any _ (mb + 1) w.heap.size wr.heap.size l [] (.slice (some ⟨b, o, none⟩) l.length ic) _ 16 16 xa xb (below_cell (below_new _ _) co) (below_cell (below_new _ _) cl) (by go_simp) (by go_simp) (by go_simp) (HK.out.1.below (below_seq HS.out.2.bel (below_new _ _))) (at_of_own (HS.out.2.grow (below_new _ _)).own) HS.out.2.low (by omega) (by omega)).mono ?_; rw [hamong]; rintro r w3 ⟨rfl, hb3⟩; have d0 : w3.cell? ⟨wr.heap.size, 0, none⟩ = some (.int .i64 16) := below_cell hb3 (by go_simp); have H3 : Hid (RS w w3 mb (.slice (some ⟨b, o, none⟩) l.length ic) l [] _ rs gv) := HS.out.2.grow (below_seq (below_new _ _) hb3); obtain ⟨os3, of3, ol3⟩ := cells_of (l := [_]) H3.out.opn; have co3 := os3 0 _ rfl; have fo3 := of3 0; clear os3 of3; clear hb3) | (at_builtin; refine wp_push2 rfl (.tmp 75) (.tmp 77) rfl (mb + 2) _ (natI []) (j : Int) w3.heap.size 0 rfl (by rw [natI_length]; rfl) rfl rfl (by have how := H3.out.own; exact how) H3.out.bas (by omega) ?_; intro ad4 c4 w4 ho4 hg4 hv4; have HP : Hid (RS w (w4.setCell ⟨mb + 1, 0, none⟩ (.slice ad4 (0 + 1) c4)) mb (.slice (some ⟨b, o, none⟩) l.length ic) l ([] ++ [j]) (.slice ad4 (0 + 1) c4) rs gv) := (H3.out.grow (below_new _ _)).push hg4 (by rw [List.length_append, natI_append]; exact ho4) hv4 (by intro q hq; rcases List.mem_append.1 hq with hq | hq; exact H3.out.low q hq; simp at hq; subst hq; exact hlt); have hop4 := (hg4.block (mb + 1) (by simp; omega) (fun e => by have := (H3.out.own.lt (mb + 1) e.symm).1; omega)).trans (H3.out.grow (below_new _ _)).opn; obtain ⟨os4, of4, ol4⟩ := cells_of (l := [_]) hop4; have co4 := os4 0 _ rfl; have fo4 := of4 0; clear os4 of4 hop4 ho4 hg4 hv4 co3 fo3))
  go_roundw
  case rel => exact ⟨j + 1, [] ++ [j], _, rs, gv, by omega, by go_num, by have := HD.out; rw [if_neg (by decide)] at this; exact this, by rw [List.length_append]; first | (simp; done) | (simp; omega), by omega, HP.out⟩
  case measure => simp [intOf]; omega

set_option maxRecDepth 20000 in
set_option maxHeartbeats 16000000 in
theorem ri_e14 : RIp.2.2.1 := by
  intro w l ic hl c k hmm HT _ _ hg w1 _ _ u4 u5 u6 u27 u28 u29 u30 u31 u32 u33 u34 u35 u36 u37 u38 _ _ _ _ _ HFO w2 mb ll1 wr u2 u9 u10 u11 u12 u45 u46 u47 u48 u49 u50 u51 u52 u53 u54 u55 u56 u57 u58 u59 u60 u61 u62 u63 u64 u65 u66 u67 u68 u69 u70 u71 u72 u73 u74 u75 u76 u77 u78 u79 u80 u81 u82 u83 u84 u85 u86 u87 u88 u89 u90 u91 u92 u93 u94 u95 u96 u97 u98 u99 u100 u101 u102 u103 u104 u105 u106 u107 u108 u109 u110 u111 u112 u113 u114 u115 u116 u117 u118 u119 u120 u121 u122 u123 u124 u125 u126 u127 u128 u129 u130 u131 u132 u133 u134 u135 u136 u137 u138 u139 u140 u141 u142 u143 u144 u145 u146 u147 u148 u149 u150 j rs gv hj hrl hlt b o HK _ _ HI xa xb x1 x2 ll2 cl ol2 fo ml2 cm0 cm1 fm1 ord2 hol ad0 cap0 co x0 HS h13 h16
  have hcc := HK.out.2.symm.trans ((HS.out.1 9 [] (by rw [docOf_14, if_pos (.inl rfl)])).1 (by decide))
  simp only [Prod.mk.injEq] at hcc
  obtain ⟨rfl, rfl⟩ := hcc
  go_wp2_with fail
  go_quiet (fail)
  obtain ⟨w5, w6, hr5, hr6, hl5, hl6, hb5, hb6⟩ := er_map ((wr.alloc (.cells #[.int .i64 14, .int .i64 xa, .int .i64 xb] 35)).drewN nq) 14 17 9 10 (by omega) (by omega) (by omega) (by omega) (by decide)
  rw [show ((wr.alloc (.cells #[.int .i64 14, .int .i64 xa, .int .i64 xb] 35)).drewN nq).heap.size = wr.heap.size + 1 by simp] at hr5 hr6 hl5 hl6
  have d6 : w6.cell? ⟨wr.heap.size, 0, none⟩ = some (.int .i64 14) := below_cell hb6 (by go_simp)
  have H6 : Hid (RS w w6 mb (.slice (some ⟨b, o, none⟩) l.length ic) l [] _ rs gv) := HS.out.2.grow (below_seq (below_seq' (below_new _ _)) hb6)
  clear hb5 hb6
  go_wp2_with (go_at_call 25; refine (F_any 9 (j : Int) _).mono ?_; rintro r w9 ⟨rfl, hb9⟩; have H9 : Hid (RS w w9 mb (.slice (some ⟨b, o, none⟩) l.length ic) l [] _ rs gv) := H6.out.grow (below_seq (Below.refl _ _) hb9); obtain ⟨rs9, rf9, rl9⟩ := cells_of (l := [_, _]) H9.out.res; have r90 := rs9 0 _ rfl; have r91 := rs9 1 _ rfl; clear hb9 rs9)
  exact bodyPost_ret (v := .tuple #[.pointer none, .agg #[.int .i64 9, .int .i64 (j : Int)]]) (RI_ends (by simpa using setCell_at (i := 1) (u := .int .i64 (j : Int)) (setCell_at (i := 0) (u := .int .i64 9) H9.out.res)) rfl rfl) rfl ⟨⟨_, rfl, (fun h0 => absurd h0 (by first | decide | assumption | omega))⟩, (H9.out.bel.setCell (by show w.heap.size ≤ w.heap.size + 1; omega) _).setCell (by show w.heap.size ≤ w.heap.size + 1; omega) _⟩

set_option maxRecDepth 20000 in
set_option maxHeartbeats 16000000 in
theorem ri_e17 : RIp.2.2.2.1 := by
  intro w l ic hl c k hmm HT _ _ hg w1 _ _ u4 u5 u6 u27 u28 u29 u30 u31 u32 u33 u34 u35 u36 u37 u38 _ _ _ _ _ HFO w2 mb ll1 wr u2 u9 u10 u11 u12 u45 u46 u47 u48 u49 u50 u51 u52 u53 u54 u55 u56 u57 u58 u59 u60 u61 u62 u63 u64 u65 u66 u67 u68 u69 u70 u71 u72 u73 u74 u75 u76 u77 u78 u79 u80 u81 u82 u83 u84 u85 u86 u87 u88 u89 u90 u91 u92 u93 u94 u95 u96 u97 u98 u99 u100 u101 u102 u103 u104 u105 u106 u107 u108 u109 u110 u111 u112 u113 u114 u115 u116 u117 u118 u119 u120 u121 u122 u123 u124 u125 u126 u127 u128 u129 u130 u131 u132 u133 u134 u135 u136 u137 u138 u139 u140 u141 u142 u143 u144 u145 u146 u147 u148 u149 u150 j rs gv hj hrl hlt b o HK _ _ HI xa xb x1 x2 ll2 cl ol2 fo ml2 cm0 cm1 fm1 ord2 hol ad0 cap0 co x0 HS h13 h16 h14
  have hcc := HK.out.2.symm.trans ((HS.out.1 10 [] (by rw [docOf_17, if_pos (.inl rfl)])).1 (by decide))
  simp only [Prod.mk.injEq] at hcc
  obtain ⟨rfl, rfl⟩ := hcc
  go_wp2_with fail
  go_quiet (fail)
  obtain ⟨w5, w6, hr5, hr6, hl5, hl6, hb5, hb6⟩ := er_map ((wr.alloc (.cells #[.int .i64 17, .int .i64 xa, .int .i64 xb] 35)).drewN nq) 14 17 9 10 (by omega) (by omega) (by omega) (by omega) (by decide)
  rw [show ((wr.alloc (.cells #[.int .i64 17, .int .i64 xa, .int .i64 xb] 35)).drewN nq).heap.size = wr.heap.size + 1 by simp] at hr5 hr6 hl5 hl6
  have d6 : w6.cell? ⟨wr.heap.size, 0, none⟩ = some (.int .i64 17) := below_cell hb6 (by go_simp)
  have H6 : Hid (RS w w6 mb (.slice (some ⟨b, o, none⟩) l.length ic) l [] _ rs gv) := HS.out.2.grow (below_seq (below_seq' (below_new _ _)) hb6)
  clear hb5 hb6
  go_wp2_with (go_at_call 25; refine (F_any 10 (j : Int) _).mono ?_; rintro r w9 ⟨rfl, hb9⟩; have H9 : Hid (RS w w9 mb (.slice (some ⟨b, o, none⟩) l.length ic) l [] _ rs gv) := H6.out.grow (below_seq (Below.refl _ _) hb9); obtain ⟨rs9, rf9, rl9⟩ := cells_of (l := [_, _]) H9.out.res; have r90 := rs9 0 _ rfl; have r91 := rs9 1 _ rfl; clear hb9 rs9)
  exact bodyPost_ret (v := .tuple #[.pointer none, .agg #[.int .i64 10, .int .i64 (j : Int)]]) (RI_ends (by simpa using setCell_at (i := 1) (u := .int .i64 (j : Int)) (setCell_at (i := 0) (u := .int .i64 10) H9.out.res)) rfl rfl) rfl ⟨⟨_, rfl, (fun h0 => absurd h0 (by first | decide | assumption | omega))⟩, (H9.out.bel.setCell (by show w.heap.size ≤ w.heap.size + 1; omega) _).setCell (by show w.heap.size ≤ w.heap.size + 1; omega) _⟩

set_option maxRecDepth 20000 in
set_option maxHeartbeats 16000000 in
theorem ri_e15 : RIp.2.2.2.2.1 := by
  intro w l ic hl c k hmm HT _ _ hg w1 _ _ u4 u5 u6 u27 u28 u29 u30 u31 u32 u33 u34 u35 u36 u37 u38 _ _ _ _ _ HFO w2 mb ll1 wr u2 u9 u10 u11 u12 u45 u46 u47 u48 u49 u50 u51 u52 u53 u54 u55 u56 u57 u58 u59 u60 u61 u62 u63 u64 u65 u66 u67 u68 u69 u70 u71 u72 u73 u74 u75 u76 u77 u78 u79 u80 u81 u82 u83 u84 u85 u86 u87 u88 u89 u90 u91 u92 u93 u94 u95 u96 u97 u98 u99 u100 u101 u102 u103 u104 u105 u106 u107 u108 u109 u110 u111 u112 u113 u114 u115 u116 u117 u118 u119 u120 u121 u122 u123 u124 u125 u126 u127 u128 u129 u130 u131 u132 u133 u134 u135 u136 u137 u138 u139 u140 u141 u142 u143 u144 u145 u146 u147 u148 u149 u150 j rs gv hj hrl hlt b o HK _ _ HI xa xb x1 x2 ll2 cl ol2 fo ml2 cm0 cm1 fm1 ord2 hol ad0 cap0 co x0 HS h13 h16 h14 h17 hamong
  have hcc := HK.out.2.symm.trans ((HS.out.1 9 [] (by rw [docOf_15, if_neg (by rw [hamong]; decide)])).1 (by decide))
  simp only [Prod.mk.injEq] at hcc
  obtain ⟨rfl, rfl⟩ := hcc
  go_wp2_with (first | (go_at_call 55; refine (among_any _ (mb + 1) w.heap.size wr.heap.size l [] (.slice (some ⟨b, o, none⟩) l.length ic) _ 13 15 xa xb (below_cell (below_new _ _) co) (below_cell (below_new _ _) cl) (by go_simp) (by go_simp) (by go_simp) (HK.out.1.below (below_seq HS.out.2.bel (below_new _ _))) (at_of_own (HS.out.2.grow (below_new _ _)).own) HS.out.2.low (by omega) (by omega)).mono ?_; rw [hamong]; rintro r w3 ⟨rfl, hb3⟩; have d0 : w3.cell? ⟨wr.heap.size, 0, none⟩ = some (.int .i64 15) := below_cell hb3 (by go_simp); have H3 : Hid (RS w w3 mb (.slice (some ⟨b, o, none⟩) l.length ic) l [] _ rs gv) := HS.out.2.grow (below_seq (below_new _ _) hb3); obtain ⟨os3, of3, ol3⟩ := cells_of (l := [_]) H3.out.opn; have co3 := os3 0 _ rfl; have fo3 := of3 0; clear os3 of3; clear hb3) | (go_at_call 25; refine (F_any 9 (j : Int) _).mono ?_; rintro r w9 ⟨rfl, hb9⟩; have H9 : Hid (RS w w9 mb (.slice (some ⟨b, o, none⟩) l.length ic) l [] _ rs gv) := H3.out.grow (below_seq (Below.refl _ _) hb9); obtain ⟨rs9, rf9, rl9⟩ := cells_of (l := [_, _]) H9.out.res; have r90 := rs9 0 _ rfl; have r91 := rs9 1 _ rfl; clear hb9 rs9))
  exact bodyPost_ret (v := .tuple #[.pointer none, .agg #[.int .i64 9, .int .i64 (j : Int)]]) (RI_ends (by simpa using setCell_at (i := 1) (u := .int .i64 (j : Int)) (setCell_at (i := 0) (u := .int .i64 9) H9.out.res)) rfl rfl) rfl ⟨⟨_, rfl, (fun h0 => absurd h0 (by first | decide | assumption | omega))⟩, (H9.out.bel.setCell (by show w.heap.size ≤ w.heap.size + 1; omega) _).setCell (by show w.heap.size ≤ w.heap.size + 1; omega) _⟩

set_option maxRecDepth 20000 in
set_option maxHeartbeats 16000000 in
theorem ri_eo : RIp.2.2.2.2.2.1 := by
  intro w l ic hl c k hmm HT _ _ hg w1 _ _ u4 u5 u6 u27 u28 u29 u30 u31 u32 u33 u34 u35 u36 u37 u38 _ _ _ _ _ HFO w2 mb ll1 wr u2 u9 u10 u11 u12 u45 u46 u47 u48 u49 u50 u51 u52 u53 u54 u55 u56 u57 u58 u59 u60 u61 u62 u63 u64 u65 u66 u67 u68 u69 u70 u71 u72 u73 u74 u75 u76 u77 u78 u79 u80 u81 u82 u83 u84 u85 u86 u87 u88 u89 u90 u91 u92 u93 u94 u95 u96 u97 u98 u99 u100 u101 u102 u103 u104 u105 u106 u107 u108 u109 u110 u111 u112 u113 u114 u115 u116 u117 u118 u119 u120 u121 u122 u123 u124 u125 u126 u127 u128 u129 u130 u131 u132 u133 u134 u135 u136 u137 u138 u139 u140 u141 u142 u143 u144 u145 u146 u147 u148 u149 u150 j rs gv hj hrl hlt b o HK _ _ HI xo xa xb x0 x1 x2 ll2 cl ol2 fo ml2 cm0 cm1 fm1 ord2 hol ad0 cap0 co HS h13 h16 h14 h17 h15
  have g13 : (xo == 13) = false := by simpa using h13
  have g16 : (xo == 16) = false := by simpa using h16
  have g14 : (xo == 14) = false := by simpa using h14
  have g17 : (xo == 17) = false := by simpa using h17
  have g15 : (xo == 15) = false := by simpa using h15
  have HD : Hid (_ = _) := (HS.out.1 0 [] (docOf_other h13 h16 h14 h17 h15)).2 rfl
  go_wp2_with fail
  go_roundw
  case rel => exact ⟨j + 1, [], _, rs, gv, by omega, by go_num, by have := HD.out; rw [if_neg (by omega)] at this; exact this, by simp, by omega, HS.out.2.grow (below_new _ _)⟩
  case measure => simp [intOf]; omega

end Go.Proofs.YtgemadoieielcacDoor
