import Derived.Test.YtccoobcggbbcialGreatDoorGNF
namespace Go.Proofs.YtccoobcggbbcialGreatDoor
open Go.ChangeShapes Go.WideShapes Go.ChangeAt Go.RowKit
theorem settle_ends{w:World}{a:Act}{x y:Value}(h1:a.tmps[4]?.getD undef=x)(h2:a.tmps[5]?.getD undef=y):(results Tryz.f236 a.tmps).run Tryz.prog w = .ok (.tuple #[x,y]) w:=by
 simp[results,Tryz.results236,go_sem,h1,h2]
set_option maxRecDepth 20000 in
set_option maxHeartbeats 1000000 in
theorem settleU_any(w:World)(g0 g1 g2:Nat)(ask:Int→Int)(a:Int)(HA:∀W,Below w.heap.size w W→∀y,0≤y→y≤100000→Calls Tryz.prog 237 #[.int .i64 y,.pointer (some ⟨g0,0,none⟩),.pointer (some ⟨g1,0,none⟩),.pointer (some ⟨g2,0,none⟩)] W fun r w'=>r = .returned (.int .i64 (ask y))∧Below W.heap.size W w')(hm:Mo ask a)(ha:0≤a)(ha2:a≤1000000000000)(hst:a≤ask a)(hbig:∀y,a≤y→y≤100000→ask y≤1000000000000) :
  Calls Tryz.prog 236 #[.int .i64 a,.func (Fn.func 237) #[] #[.pointer (some ⟨g0,0,none⟩),.pointer (some ⟨g1,0,none⟩),.pointer (some ⟨g2,0,none⟩)]] w fun r w'=>∃x,Fx ask a x∧r = .returned (.tuple #[.int .i64 (x.getD 0),.bool x.isSome])∧Below w.heap.size w w':=by
 have HAH:Hid (∀W,Below w.heap.size w W→∀y,0≤y→y≤100000→Calls Tryz.prog 237 #[.int .i64 y,.pointer (some ⟨g0,0,none⟩),.pointer (some ⟨g1,0,none⟩),.pointer (some ⟨g2,0,none⟩)] W fun r w'=>r = .returned (.int .i64 (ask y))∧Below W.heap.size W w'):=HA
 have HM:Hid (Mo ask a∧a≤ask a∧∀y,a≤y→y≤100000→ask y≤1000000000000):=⟨hm,hst,hbig⟩
 clear HA hm hst hbig
 go_enter Tryz.func236,Tryz.ntmps236
 go_wp2_with fail
 go_loopw [6] (fun wv wr=>∃y:Int,wv = .int .i64 y∧Below w.heap.size w wr∧a≤y∧y≤1000000000000∧Hid (y≤ask y∧∀v,a≤v→v<y→ask v≠v)) (fun wv _=>(100001-intOf wv).toNat)
 case atStart=>exact⟨a,rfl,Below.refl _ _,by omega,ha2,⟨HM.out.2.1,fun v h1 h2=>by omega⟩⟩
 case round =>
  obtain⟨y,rfl,hb,h1,h2,HX⟩:=hrel
  by_cases hle:y≤100000
  ·have HB:Hid (Below w.heap.size w wr):=hb
   clear hb
   have hby:=HM.out.2.2 y h1 hle
   have hyn:=HX.out.1
   have HZ:Hid (∀z,ask y=z→z≠y→a≤z∧z≤ask z∧∀v,a≤v→v<z→ask v≠v):=fun z hz _=>hz ▸ HM.out.1.step h1 hyn HX.out.2
   have hCall:=fun W hW=>HAH.out W hW y (by omega) hle
   obtain⟨z,hz⟩:∃z,ask y=z:=⟨_,rfl⟩
   rw[hz]at hby hyn hCall
   have H3:Hid (ask y=z):=hz
   clear hz
   have HC:Hid (∀W,Below w.heap.size w W→Calls Tryz.prog 237 #[.int .i64 y,.pointer (some ⟨g0,0,none⟩),.pointer (some ⟨g1,0,none⟩),.pointer (some ⟨g2,0,none⟩)] W fun r w'=>r = .returned (.int .i64 z)∧Below W.heap.size W w'):=hCall
   clear hCall
   by_cases he:z=y
   ·subst he
    go_wp2_with (go_at_call 237;refine(HC.out _ HB.out).mono ?_;rintro r w2 ⟨rfl,hb2⟩;have H2:Hid (Below w.heap.size w w2):=below_seq HB.out hb2;clear hb2)
    refine bodyPost_ret (settle_ends rfl rfl) rfl ?_
    exact⟨some z,⟨h1,hle,H3.out,HX.out.2⟩,rfl,H2.out⟩
   ·have he':(z == y)=false:=beq_eq_false_iff_ne.2 he
    go_wp2_with (go_at_call 237;refine(HC.out _ HB.out).mono ?_;rintro r w2 ⟨rfl,hb2⟩;have H2:Hid (Below w.heap.size w w2):=below_seq HB.out hb2;clear hb2)
    have hs:=HZ.out z H3.out he
    exact⟨⟨z,rfl,H2.out,hs.1,hby,hs.2⟩,by simp[intOf];omega⟩
  ·go_wp2_with fail
   refine bodyPost_ret (settle_ends rfl rfl) rfl ?_
   exact⟨none,fun v hv1 hv2=>HX.out.2 v hv1 (by omega),rfl,hb⟩
set_option maxRecDepth 20000 in
set_option maxHeartbeats 1000000 in
theorem settleQ_any(w:World)(g0 g1 g2 g3:Nat)(ask:Int→Int)(a:Int)(HA:∀W,Below w.heap.size w W→∀y,0≤y→y≤100000→Calls Tryz.prog 241 #[.int .i64 y,.pointer (some ⟨g0,0,none⟩),.pointer (some ⟨g1,0,none⟩),.pointer (some ⟨g2,0,none⟩),.pointer (some ⟨g3,0,none⟩)] W fun r w'=>r = .returned (.int .i64 (ask y))∧Below W.heap.size W w')(hm:Mo ask a)(ha:0≤a)(ha2:a≤1000000000000)(hst:a≤ask a)(hbig:∀y,a≤y→y≤100000→ask y≤1000000000000) :
  Calls Tryz.prog 236 #[.int .i64 a,.func (Fn.func 241) #[] #[.pointer (some ⟨g0,0,none⟩),.pointer (some ⟨g1,0,none⟩),.pointer (some ⟨g2,0,none⟩),.pointer (some ⟨g3,0,none⟩)]] w fun r w'=>∃x,Fx ask a x∧r = .returned (.tuple #[.int .i64 (x.getD 0),.bool x.isSome])∧Below w.heap.size w w':=by
 have HAH:Hid (∀W,Below w.heap.size w W→∀y,0≤y→y≤100000→Calls Tryz.prog 241 #[.int .i64 y,.pointer (some ⟨g0,0,none⟩),.pointer (some ⟨g1,0,none⟩),.pointer (some ⟨g2,0,none⟩),.pointer (some ⟨g3,0,none⟩)] W fun r w'=>r = .returned (.int .i64 (ask y))∧Below W.heap.size W w'):=HA
 have HM:Hid (Mo ask a∧a≤ask a∧∀y,a≤y→y≤100000→ask y≤1000000000000):=⟨hm,hst,hbig⟩
 clear HA hm hst hbig
 go_enter Tryz.func236,Tryz.ntmps236
 go_wp2_with fail
 go_loopw [6] (fun wv wr=>∃y:Int,wv = .int .i64 y∧Below w.heap.size w wr∧a≤y∧y≤1000000000000∧Hid (y≤ask y∧∀v,a≤v→v<y→ask v≠v)) (fun wv _=>(100001-intOf wv).toNat)
 case atStart=>exact⟨a,rfl,Below.refl _ _,by omega,ha2,⟨HM.out.2.1,fun v h1 h2=>by omega⟩⟩
 case round =>
  obtain⟨y,rfl,hb,h1,h2,HX⟩:=hrel
  by_cases hle:y≤100000
  ·have HB:Hid (Below w.heap.size w wr):=hb
   clear hb
   have hby:=HM.out.2.2 y h1 hle
   have hyn:=HX.out.1
   have HZ:Hid (∀z,ask y=z→z≠y→a≤z∧z≤ask z∧∀v,a≤v→v<z→ask v≠v):=fun z hz _=>hz ▸ HM.out.1.step h1 hyn HX.out.2
   have hCall:=fun W hW=>HAH.out W hW y (by omega) hle
   obtain⟨z,hz⟩:∃z,ask y=z:=⟨_,rfl⟩
   rw[hz]at hby hyn hCall
   have H3:Hid (ask y=z):=hz
   clear hz
   have HC:Hid (∀W,Below w.heap.size w W→Calls Tryz.prog 241 #[.int .i64 y,.pointer (some ⟨g0,0,none⟩),.pointer (some ⟨g1,0,none⟩),.pointer (some ⟨g2,0,none⟩),.pointer (some ⟨g3,0,none⟩)] W fun r w'=>r = .returned (.int .i64 z)∧Below W.heap.size W w'):=hCall
   clear hCall
   by_cases he:z=y
   ·subst he
    go_wp2_with (go_at_call 241;refine(HC.out _ HB.out).mono ?_;rintro r w2 ⟨rfl,hb2⟩;have H2:Hid (Below w.heap.size w w2):=below_seq HB.out hb2;clear hb2)
    refine bodyPost_ret (settle_ends rfl rfl) rfl ?_
    exact⟨some z,⟨h1,hle,H3.out,HX.out.2⟩,rfl,H2.out⟩
   ·have he':(z == y)=false:=beq_eq_false_iff_ne.2 he
    go_wp2_with (go_at_call 241;refine(HC.out _ HB.out).mono ?_;rintro r w2 ⟨rfl,hb2⟩;have H2:Hid (Below w.heap.size w w2):=below_seq HB.out hb2;clear hb2)
    have hs:=HZ.out z H3.out he
    exact⟨⟨z,rfl,H2.out,hs.1,hby,hs.2⟩,by simp[intOf];omega⟩
  ·go_wp2_with fail
   refine bodyPost_ret (settle_ends rfl rfl) rfl ?_
   exact⟨none,fun v hv1 hv2=>HX.out.2 v hv1 (by omega),rfl,hb⟩
theorem sumF_range{f:Int→Fr→Int}{y:Int}:∀ {l:List Fr},(∀m∈l,0≤f y m∧f y m≤3000000000)→0≤sumF f y l∧sumF f y l≤(l.length:Int)*3000000000
 | [],_=>by simp[sumF]
 | m::r,h=>by
  have h1:=h m List.mem_cons_self
  have h2:=sumF_range (l:=r) (fun x hx=>h x (List.mem_cons_of_mem _ hx))
  simp only[sumF,List.length_cons]
  omega
theorem take_ok{l:List Fr}{k:Nat}(h:∀x∈l,okFr x):∀x∈l.take k,okFr x:=fun x hx=>h x (List.mem_of_mem_take hx)
theorem drop_ok{l:List Fr}{k:Nat}(h:∀x∈l,okFr x):∀x∈l.drop k,okFr x:=fun x hx=>h x (List.mem_of_mem_drop hx)
theorem take_snoc{l:List Fr}{i:Nat}{m:Fr}(h:l[i]?=some m):l.take (i+1)=l.take i++[m]:=by
 rw[List.take_add_one,h];rfl
theorem keepH{w1 W W':World}{g1 g2 g3:Nat}{v1 v2 v3:Value}(hb:Below W.heap.size W W')(h:Below w1.heap.size w1 W∧W.cell? ⟨g1,0,none⟩=some v1∧W.cell? ⟨g2,0,none⟩=some v2∧W.cell? ⟨g3,0,none⟩=some v3):Below w1.heap.size w1 W'∧W'.cell? ⟨g1,0,none⟩=some v1∧W'.cell? ⟨g2,0,none⟩=some v2∧W'.cell? ⟨g3,0,none⟩=some v3 :=
 ⟨below_seq h.1 hb,below_cell hb h.2.1,below_cell hb h.2.2.1,below_cell hb h.2.2.2⟩
theorem keepI{w1 W W':World}{g1 g2 g3 g4:Nat}{v1 v2 v3 v4:Value}(hb:Below W.heap.size W W')(h:Below w1.heap.size w1 W∧W.cell? ⟨g1,0,none⟩=some v1∧W.cell? ⟨g2,0,none⟩=some v2∧W.cell? ⟨g3,0,none⟩=some v3∧W.cell? ⟨g4,0,none⟩=some v4):Below w1.heap.size w1 W'∧W'.cell? ⟨g1,0,none⟩=some v1∧W'.cell? ⟨g2,0,none⟩=some v2∧W'.cell? ⟨g3,0,none⟩=some v3∧W'.cell? ⟨g4,0,none⟩=some v4 :=
 ⟨below_seq h.1 hb,below_cell hb h.2.1,below_cell hb h.2.2.1,below_cell hb h.2.2.2.1,below_cell hb h.2.2.2.2⟩
set_option maxRecDepth 20000 in
set_option maxHeartbeats 1000000 in
theorem w1_any(w:World)(l:List Fr)(lv:Value)(m:Fr)(gh gl gi i:Nat)(b y:Int)(hl8:l.length≤8)(hok:∀x∈l,okFr x)(hm:l[i]?=some m)(hb:0≤b∧b≤9999)(hy:0≤y∧y≤100000)(hv:RowSl Fr.vals w l lv)(c1:w.cell? ⟨gh,0,none⟩=some (.int .i64 b))(c2:w.cell? ⟨gl,0,none⟩=some lv)(c3:w.cell? ⟨gi,0,none⟩=some (.int .i64 (i:Int))) :
  Calls Tryz.prog 237 #[.int .i64 y,.pointer (some ⟨gh,0,none⟩),.pointer (some ⟨gl,0,none⟩),.pointer (some ⟨gi,0,none⟩)] w fun r w'=>r = .returned (.int .i64 (busyAsk b (l.take i) m y))∧Below w.heap.size w w':=by
 have hi:i<l.length:=(List.getElem?_eq_some_iff.1 hm).1
 have hv':=hv
 obtain⟨ad,c,rfl,-,hcap,hrw⟩:=hv'
 rcases hrw with h|⟨ab,ao,rfl,-⟩
 ·rw[h]at hi;simp at hi
 have hrow:=(hv.below (below_new w (.cells #[.int .i64 y] 3))).take (i+1) (by omega)
 have HS:Hid (RowSl Fr.vals (w.alloc (.cells #[.int .i64 y] 3)) (l.take (i+1)) (.slice (some ⟨ab,ao,none⟩) (i+1) c)∧(∀x∈l.take (i+1),okFr x)∧(l.take (i+1)).length≤8):=⟨hrow,take_ok hok,by rw[List.length_take];omega⟩
 unfold busyAsk
 rw[← take_snoc hm]
 have hr:=sumF_range (f:=upF) (y:=y) (l:=l.take (i+1)) (fun x hx=>upF_range (take_ok hok x hx) hy.1 hy.2)
 have hlen:(l.take (i+1)).length≤8:=HS.out.2.2
 generalize hsum:sumF upF y (l.take (i+1))=z at *
 have HZ:Hid (sumF upF y (l.take (i+1))=z):=hsum
 have e1:IntKind.i64.wrap (b+z)=b+z:=by rw[IntKind.wrap_i64];omega
 have hic:((i:Int)+1)≤(c:Int):=by omega
 have hic2:i+1≤c:=by omega
 have hc0:¬ c=0:=by omega
 have e9:((i:Int)+1).toNat=i+1:=by omega
 have hi0:(0:Int)≤(i:Int)+1:=by omega
 have hi8:(i:Int)<8:=by omega
 have e2:IntKind.i64.wrap ((i:Int)+1)=(i:Int)+1:=by rw[IntKind.wrap_i64];omega
 have l1:gh<w.heap.size:=World.block_lt_of_cell? _ _ c1
 have l2:gl<w.heap.size:=World.block_lt_of_cell? _ _ c2
 have l3:gi<w.heap.size:=World.block_lt_of_cell? _ _ c3
 clear hv hrow hok hr hsum hm
 go_enter Tryz.func237,Tryz.ntmps237
 go_wp2_with fail
 go_region_held3 (fun w'=>Below (w.alloc (.cells #[.int .i64 y] 3)).heap.size (w.alloc (.cells #[.int .i64 y] 3)) w'∧w'.cell? ⟨gh,0,none⟩=some (.int .i64 b)∧w'.cell? ⟨gl,0,none⟩=some (.slice (some ⟨ab,ao,none⟩) l.length c)∧w'.cell? ⟨gi,0,none⟩=some (.int .i64 (i:Int)))
  (first|assumption|exact⟨(Below.refl _ _).drew,by go_simp,by go_simp,by go_simp⟩)
  ((go_at_call 238;refine(sum_up_any _ (l.take (i+1)) _ w.heap.size y HS.out.2.2 HS.out.2.1 hy (HS.out.1.below (And.left ‹Below (w.alloc (.cells #[.int .i64 y] 3)).heap.size (w.alloc (.cells #[.int .i64 y] 3)) _∧_›)) (below_cell (And.left ‹Below (w.alloc (.cells #[.int .i64 y] 3)).heap.size (w.alloc (.cells #[.int .i64 y] 3)) _∧_›) (by go_simp))).mono ?_;rintro r wc ⟨rfl,hbc⟩;have hSc:=keepH hbc ‹Below (w.alloc (.cells #[.int .i64 y] 3)).heap.size (w.alloc (.cells #[.int .i64 y] 3)) _∧_›;clear hbc;rw[HZ.out]))
 all_goals
  go_wp2_with fail
  go_ret
  exact⟨rfl,below_seq (below_new _ _) (And.left ‹Below (w.alloc (.cells #[.int .i64 y] 3)).heap.size (w.alloc (.cells #[.int .i64 y] 3)) _∧_›)⟩
set_option maxRecDepth 20000 in
set_option maxHeartbeats 1000000 in
theorem w2_any(w:World)(hd:List Fr)(dv:Value)(m:Fr)(gh gq gm ga:Nat)(b y:Int)(q:Nat)(hl8:hd.length≤8)(hok:∀x∈hd,okFr x)(hm:okFr m)(hb:0≤b∧b≤9999)(hq:q≤200000)(hy:0≤y∧y≤100000)(hv:RowSl Fr.vals w hd dv)(c1:w.cell? ⟨gh,0,none⟩=some (.int .i64 b))(c2:w.cell? ⟨gq,0,none⟩=some (.int .i64 (q:Int)))(c3:w.cell? ⟨gm,0,none⟩=some (.int .i64 m.c))(c4:w.cell? ⟨ga,0,none⟩=some dv) :
  Calls Tryz.prog 241 #[.int .i64 y,.pointer (some ⟨gh,0,none⟩),.pointer (some ⟨gq,0,none⟩),.pointer (some ⟨gm,0,none⟩),.pointer (some ⟨ga,0,none⟩)] w fun r w'=>r = .returned (.int .i64 (qAsk b hd m (q:Int) y))∧Below w.heap.size w w':=by
 obtain⟨ad,c,rfl⟩:=hv.len
 have HS:Hid (RowSl Fr.vals (w.alloc (.cells #[.int .i64 y] 3)) hd (.slice ad hd.length c)∧(∀x∈hd,okFr x)∧hd.length≤8):=⟨hv.below (below_new w (.cells #[.int .i64 y] 3)),hok,hl8⟩
 unfold qAsk
 have hr:=sumF_range (f:=dnF) (y:=y) (l:=hd) (fun x hx=>dnF_range (hok x hx) hy.1 hy.2)
 generalize hsum:sumF dnF y hd=z at *
 have HZ:Hid (sumF dnF y hd=z):=hsum
 have hmc:1≤m.c∧m.c≤10000:=⟨hm.1,hm.2.1⟩
 generalize m.c=mc at *
 have hqc0:0≤(q:Int)*mc:=Int.mul_nonneg (by omega) (by omega)
 have hqc1:(q:Int)*mc≤2000000000:=by
  have:=Int.mul_le_mul (show(q:Int)≤200000 by omega) hmc.2 (by omega) (by omega)
  omega
 have e1:IntKind.i64.wrap (b+(q:Int)*mc+z)=b+(q:Int)*mc+z:=by rw[IntKind.wrap_i64];omega
 have e2:IntKind.i64.wrap ((q:Int)*mc)=(q:Int)*mc:=by rw[IntKind.wrap_i64];omega
 have e3:IntKind.i64.wrap (b+(q:Int)*mc)=b+(q:Int)*mc:=by rw[IntKind.wrap_i64];omega
 have l1:gh<w.heap.size:=World.block_lt_of_cell? _ _ c1
 have l2:gq<w.heap.size:=World.block_lt_of_cell? _ _ c2
 have l3:gm<w.heap.size:=World.block_lt_of_cell? _ _ c3
 have l4:ga<w.heap.size:=World.block_lt_of_cell? _ _ c4
 clear hv hok hr hsum hm hqc0 hqc1
 go_enter Tryz.func241,Tryz.ntmps241
 go_wp2_with fail
 go_region_held3 (fun w'=>Below (w.alloc (.cells #[.int .i64 y] 3)).heap.size (w.alloc (.cells #[.int .i64 y] 3)) w'∧w'.cell? ⟨gh,0,none⟩=some (.int .i64 b)∧w'.cell? ⟨gq,0,none⟩=some (.int .i64 (q:Int))∧w'.cell? ⟨gm,0,none⟩=some (.int .i64 mc)∧w'.cell? ⟨ga,0,none⟩=some (.slice ad hd.length c))
  (first|assumption|exact⟨(Below.refl _ _).drew,by go_simp,by go_simp,by go_simp,by go_simp⟩)
  ((go_at_call 238;refine(sum_dn_any _ hd _ w.heap.size y HS.out.2.2 HS.out.2.1 hy (HS.out.1.below (And.left ‹Below (w.alloc (.cells #[.int .i64 y] 3)).heap.size (w.alloc (.cells #[.int .i64 y] 3)) _∧_›)) (below_cell (And.left ‹Below (w.alloc (.cells #[.int .i64 y] 3)).heap.size (w.alloc (.cells #[.int .i64 y] 3)) _∧_›) (by go_simp))).mono ?_;rintro r wc ⟨rfl,hbc⟩;have hSc:=keepI hbc ‹Below (w.alloc (.cells #[.int .i64 y] 3)).heap.size (w.alloc (.cells #[.int .i64 y] 3)) _∧_›;clear hbc;rw[HZ.out]))
 all_goals
  go_wp2_with fail
  go_ret
  exact⟨rfl,below_seq (below_new _ _) (And.left ‹Below (w.alloc (.cells #[.int .i64 y] 3)).heap.size (w.alloc (.cells #[.int .i64 y] 3)) _∧_›)⟩
end Go.Proofs.YtccoobcggbbcialGreatDoor
