import Derived.Test.YtgemadoieielcacDoorGRIm
namespace Go.Proofs.YtgemadoieielcacDoor
open Go.ChangeShapes Go.WideShapes Go.ChangeAt Go.RowKit

set_option maxRecDepth 20000 in
set_option maxHeartbeats 16000000 in
theorem ri_S : RIp.2.2.2.2.2.2.2.2.2.2.2.2.2.2.2.2.2.2.2.2.2.2.2.2.1 := by
  intro w l iad ic hl c k hmm HK HT _ _ hg w1 _ _ u4 u5 u6 u27 u28 u29 u30 u31 u32 u33 u34 u35 u36 u37 u38 _ _ _ _ _ _ HFO w2 mb ll1 _ _ u9 u10 u11 u12 u45 u46 u47 u48 u49 u50 u51 u52 u53 u54 u55 u56 u57 u58 u59 u60 u61 u62 u63 u64 u65 u66 u67 u68 u69 u70 u71 u72 u73 u74 u75 u76 u77 u78 u79 u80 u81 u82 u83 u84 u85 u86 u87 u88 u89 u90 u91 u92 u93 u94 u95 u96 u97 u98 u99 u100 u101 u102 u103 u104 u105 u106 u107 u108 u109 u110 u111 u112 u113 u114 u115 u116 u117 u118 u119 u120 u121 u122 u123 u124 u125 u126 u127 u128 u129 u130 u131 u132 u133 u134 u135 u136 u137 u138 u139 u140 u141 u142 u143 u144 u145 u146 u147 u148 u149 u150 rs gv _ hrl _ ll2 cl ol2 ord2 hol ad0 cap0 co HN _ _ _ _ _ wr u2 u13 u14 u15 u16 u17 u18 u173 u174 u175 u176 u177 u178 u179 u180 u181 u182 u183 u184 u185 u186 u187 u188 u189 u190 u191 u192 u193 u194 u195 u196 u197 u198 u199 u200 u201 u202 u203 u204 u205 u206 u207 u208 u209 u210 u211 u212 u213 u214 u215 u216 u217 u218 u219 u220 u221 hrs hj hsc hlt
  have hJ : scan (docJump l rs) l 0 = none := hsc.symm
  have hse : stackEnd l = (c, k) := (docI_stack hl HFO.out HN.out.1 hJ).symm.trans HK.out.2
  have cl3 := (cells_of (l := [_]) hrs.lbk).1 0 _ rfl
  have HS : Hid (stackEnd l = (c, k) ∧ RS w wr mb (.slice iad l.length ic) l [] (.slice ad0 0 cap0) rs gv) := ⟨hse, hrs⟩
  clear hsc hrs hJ hse
  by_cases hc0 : c = 0
  · subst hc0
    have hk0 := stackEnd_zero HS.out.1
    subst hk0
    go_wp2_with (go_at_call 57; refine (HT.out _ l _ _ (HK.out.1.below HS.out.2.bel) hl (fun q hq => scan_none _ l 0 HFO.out q hq |> (by simpa using ·)) 0 0 HS.out.1).mono ?_; rintro r w9 ⟨rfl, hb9⟩; have H9 : Hid (RS w w9 mb (.slice iad l.length ic) l [] (.slice ad0 0 cap0) rs gv) := HS.out.2.grow hb9; obtain ⟨rs9, rf9, rl9⟩ := cells_of (l := [_, _]) H9.out.res; have r90 := rs9 0 _ rfl; have r91 := rs9 1 _ rfl; clear hb9 rs9)
    exact bodyPost_ret (v := .tuple #[.pointer (some ⟨mb, 0, none⟩), .agg #[.int .i64 0, .int .i64 0]]) (RI_ends (set_alloc H9.out.res) rfl rfl) rfl ⟨⟨_, rfl, fun _ => ⟨rs, HN.out.1, _, HK.out.1.below (((H9.out.bel.setCell (by show w.heap.size ≤ w.heap.size + 1; omega) _).setCell (by show w.heap.size ≤ w.heap.size + 1; omega) _).alloc (by have := H9.out.bel.size; simp; omega) _), mb, gv, rfl, H9.out.im (fun k h1 h2 => ((below_new _ _).block k (by simp; omega)).trans ((Below.heap_setCell _ _ _ _ h1).trans (Below.heap_setCell _ _ _ _ h1)))⟩⟩, ((H9.out.bel.setCell (by show w.heap.size ≤ w.heap.size + 1; omega) _).setCell (by show w.heap.size ≤ w.heap.size + 1; omega) _).alloc (by have := H9.out.bel.size; simp; omega) _⟩
  · have hcb : (c != 0) = true := by simpa using hc0
    go_wp2_with (go_at_call 57; refine (HT.out _ l _ _ (HK.out.1.below HS.out.2.bel) hl (fun q hq => scan_none _ l 0 HFO.out q hq |> (by simpa using ·)) c k HS.out.1).mono ?_; rintro r w9 ⟨rfl, hb9⟩; have H9 : Hid (RS w w9 mb (.slice iad l.length ic) l [] (.slice ad0 0 cap0) rs gv) := HS.out.2.grow hb9; obtain ⟨rs9, rf9, rl9⟩ := cells_of (l := [_, _]) H9.out.res; have r90 := rs9 0 _ rfl; have r91 := rs9 1 _ rfl; clear hb9 rs9)
    go_region
    all_goals go_wp2_with fail
    all_goals
      refine bodyPost_ret (v := .tuple #[.pointer none, .agg #[.int .i64 c, .int .i64 k]]) (RI_ends (set_alloc H9.out.res) rfl rfl) rfl ?_
      first | exact ⟨⟨_, rfl, (fun h0 => absurd h0 (by first | decide | assumption | omega))⟩, (((H9.out.bel.setCell (by show w.heap.size ≤ w.heap.size + 1; omega) _).setCell (by show w.heap.size ≤ w.heap.size + 1; omega) _).alloc (by have := H9.out.bel.size; simp; omega) _).drew⟩ | exact ⟨⟨_, rfl, (fun h0 => absurd h0 (by first | decide | assumption | omega))⟩, (((H9.out.bel.setCell (by show w.heap.size ≤ w.heap.size + 1; omega) _).setCell (by show w.heap.size ≤ w.heap.size + 1; omega) _).alloc (by have := H9.out.bel.size; simp; omega) _)⟩

set_option maxRecDepth 20000 in
set_option maxHeartbeats 16000000 in
theorem ri_O9 : RIp.2.2.2.2.2.2.2.2.2.2.2.2.2.2.2.2.2.2.2.2.1 := by
  intro w l ic hl hmm HT _ hg w1 _ _ u4 u5 u6 u27 u28 u29 u30 u31 u32 u33 u34 u35 u36 u37 u38 _ _ _ _ HFO w2 mb ll1 wr u2 u9 u10 u11 u12 u45 u46 u47 u48 u49 u50 u51 u52 u53 u54 u55 u56 u57 u58 u59 u60 u61 u62 u63 u64 u65 u66 u67 u68 u69 u70 u71 u72 u73 u74 u75 u76 u77 u78 u79 u80 u81 u82 u83 u84 u85 u86 u87 u88 u89 u90 u91 u92 u93 u94 u95 u96 u97 u98 u99 u100 u101 u102 u103 u104 u105 u106 u107 u108 u109 u110 u111 u112 u113 u114 u115 u116 u117 u118 u119 u120 u121 u122 u123 u124 u125 u126 u127 u128 u129 u130 u131 u132 u133 u134 u135 u136 u137 u138 u139 u140 u141 u142 u143 u144 u145 u146 u147 u148 u149 u150 rs gv hj hrl hlt ll2 ol2 ord2 z os hol lb lo n lc hn co hlow b o cl HN llb cfirst ya yb y1 y2 y0 hck _ _ HK _ _
  go_wp2_with fail
  go_quiet (fail)
  go_wp2_with (go_at_call 25; refine (F_any 9 (z : Int) _).mono ?_; rintro r w9 ⟨rfl, hb9⟩; have H9 : Hid (RS w w9 mb (.slice (some ⟨b, o, none⟩) l.length ic) l (z :: os) _ rs gv) := HN.out.2.grow (below_seq (below_drewN') hb9); obtain ⟨rs9, rf9, rl9⟩ := cells_of (l := [_, _]) H9.out.res; have r90 := rs9 0 _ rfl; have r91 := rs9 1 _ rfl; clear hb9 rs9)
  exact bodyPost_ret (v := .tuple #[.pointer none, .agg #[.int .i64 9, .int .i64 (z : Int)]]) (RI_ends (by simpa using setCell_at (i := 1) (u := .int .i64 (z : Int)) (setCell_at (i := 0) (u := .int .i64 9) H9.out.res)) rfl rfl) rfl ⟨⟨_, rfl, (fun h0 => absurd h0 (by first | decide | assumption | omega))⟩, (H9.out.bel.setCell (by show w.heap.size ≤ w.heap.size + 1; omega) _).setCell (by show w.heap.size ≤ w.heap.size + 1; omega) _⟩

set_option maxRecDepth 20000 in
set_option maxHeartbeats 16000000 in
theorem ri_O10 : RIp.2.2.2.2.2.2.2.2.2.2.2.2.2.2.2.2.2.2.2.2.2.1 := by
  intro w l ic hl hmm HT _ hg w1 _ _ u4 u5 u6 u27 u28 u29 u30 u31 u32 u33 u34 u35 u36 u37 u38 _ _ _ _ HFO w2 mb ll1 wr u2 u9 u10 u11 u12 u45 u46 u47 u48 u49 u50 u51 u52 u53 u54 u55 u56 u57 u58 u59 u60 u61 u62 u63 u64 u65 u66 u67 u68 u69 u70 u71 u72 u73 u74 u75 u76 u77 u78 u79 u80 u81 u82 u83 u84 u85 u86 u87 u88 u89 u90 u91 u92 u93 u94 u95 u96 u97 u98 u99 u100 u101 u102 u103 u104 u105 u106 u107 u108 u109 u110 u111 u112 u113 u114 u115 u116 u117 u118 u119 u120 u121 u122 u123 u124 u125 u126 u127 u128 u129 u130 u131 u132 u133 u134 u135 u136 u137 u138 u139 u140 u141 u142 u143 u144 u145 u146 u147 u148 u149 u150 rs gv hj hrl hlt ll2 ol2 ord2 z os hol lb lo n lc hn co hlow b o cl HN llb cfirst yo ya yb y0 y1 y2 hck e13 g13 _ _ HK _ _
  go_wp2_with fail
  go_quiet (fail)
  go_wp2_with (go_at_call 25; refine (F_any 10 (z : Int) _).mono ?_; rintro r w9 ⟨rfl, hb9⟩; have H9 : Hid (RS w w9 mb (.slice (some ⟨b, o, none⟩) l.length ic) l (z :: os) _ rs gv) := HN.out.2.grow (below_seq (below_drewN') hb9); obtain ⟨rs9, rf9, rl9⟩ := cells_of (l := [_, _]) H9.out.res; have r90 := rs9 0 _ rfl; have r91 := rs9 1 _ rfl; clear hb9 rs9)
  exact bodyPost_ret (v := .tuple #[.pointer none, .agg #[.int .i64 10, .int .i64 (z : Int)]]) (RI_ends (by simpa using setCell_at (i := 1) (u := .int .i64 (z : Int)) (setCell_at (i := 0) (u := .int .i64 10) H9.out.res)) rfl rfl) rfl ⟨⟨_, rfl, (fun h0 => absurd h0 (by first | decide | assumption | omega))⟩, (H9.out.bel.setCell (by show w.heap.size ≤ w.heap.size + 1; omega) _).setCell (by show w.heap.size ≤ w.heap.size + 1; omega) _⟩

end Go.Proofs.YtgemadoieielcacDoor
