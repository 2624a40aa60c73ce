import Derived.Test.YtccoobcggbbcialGreatDoorGXB
namespace Go.Proofs.YtccoobcggbbcialGreatDoor
open Go.ChangeShapes Go.WideShapes Go.ChangeAt Go.RowKit
theorem worst_ends{w:World}{a:Act}{x y:Value}(h1:a.tmps[8]?.getD undef=x)(h2:a.tmps[9]?.getD undef=y):(results Tryz.f133 a.tmps).run Tryz.prog w = .ok (.tuple #[x,y]) w:=by
 simp[results,Tryz.results133,go_sem,h1,h2]
set_option maxRecDepth 20000 in
set_option maxHeartbeats 4000000 in
theorem worst_any(w:World)(l:List Ta)(v:Value)(gs gi i:Nat)(block:Int)(hl:l.length≤8)(hs:∀x∈l,stands x=true)(hi:i<l.length)(hb0:0≤block)(hb1:block≤10000)(hv:RowSl Ta.vals w l v)(h1:w.cell? ⟨gs,0,none⟩=some v)(h2:w.cell? ⟨gi,0,none⟩=some (.int .i64 (i:Int))):Calls Tryz.prog 133 #[v,.int .i64 (i:Int),.int .i64 block,.func (Fn.func 134) #[] #[.pointer (some ⟨gs,0,none⟩),.pointer (some ⟨gi,0,none⟩)]] w fun r w'=>r = .returned (.tuple #[.int .i64 (respR l i block),.bool (decide (respR l i block≠0))])∧Below w.heap.size w w':=by
 have HA:Hid (∀W,Below w.heap.size w W→∀k,k<l.length→Calls Tryz.prog 134 #[.int .i64 (k:Int),.pointer (some ⟨gs,0,none⟩),.pointer (some ⟨gi,0,none⟩)] W fun r w'=>r = .returned (.bool (aheadP l i k))∧Below W.heap.size W w'):=fun W hb k hk=>aheadP_any W l v gs gi i k hi hk (hv.below hb) (below_cell hb h1) (below_cell hb h2)
 unfold respR
 generalize aheadP l i=A at *
 unfold worstF
 have HS:Hid (∀x∈l,stands x=true):=hs
 have HV:Hid (RowSl Ta.vals w l v):=hv
 obtain⟨ad,c,rfl,-,hcap,hrow⟩:=hv
 rcases hrow with h|⟨b,o,rfl,hrow⟩
 ·rw[h]at hi;simp at hi
 obtain⟨g1,g2,g3,g4,g5,g6,g7,g8,-,-⟩:=stands_t (stands_mem hs hi)
 obtain⟨-,ci1,-,ci3,ci4,-,-⟩:=ta_at hrow (Tk_get hi)
 have HR:Hid (∀q u,(l.flatMap Ta.vals)[q]?=some u→w.cell? ⟨b,o+q,none⟩=some u):=hrow
 have hi':(i:Int)<(l.length:Int):=by omega
 clear hrow hs h1 h2
 generalize hc:(Tk l i).c=cc at *
 generalize hj:(Tk l i).j=jj at *
 generalize hd:(Tk l i).d=dd at *
 have hO:∀x∈othF A i l 0,stands x=true:=fun x hx=>HS.out x (othF_mem l 0 x hx)
 have HO:Hid (∀u v:Int,u≤v→askF (cc+block) (othF A i l 0) u≤askF (cc+block) (othF A i l 0) v):=fun u v huv=>by
  have:=sumO_mono huv _ hO
  unfold askF
  omega
 have hown:cc+block≤askF (cc+block) (othF A i l 0) (cc+block):=by
  have:=(sumO_range (w:=0) (by omega) (by omega) _ hO).1
  have:=sumO_mono (w:=0) (v:=cc+block) (by omega) _ hO
  unfold askF
  omega
 have hleast:∀v,1≤v→v+jj≤dd→askF (cc+block) (othF A i l 0) v=v→cc+block≤v:=fun v hv _ he=>by
  have:=(sumO_range (w:=0) (by omega) (by omega) _ hO).1
  have:=sumO_mono (w:=0) (v:=v) (by omega) _ hO
  unfold askF at he
  omega
 have HI:Hid (cc+block≤askF (cc+block) (othF A i l 0) (cc+block)∧∀v,1≤v→v+jj≤dd→askF (cc+block) (othF A i l 0) v=v→cc+block≤v):=⟨hown,hleast⟩
 clear hO hown hleast
 have e0:IntKind.i64.wrap (cc+block)=cc+block:=by rw[IntKind.wrap_i64];omega
 go_enter Tryz.func133,Tryz.ntmps133
 go_wp2_with fail
 have CI:Hid (_∧_):=⟨ci4,ci3⟩
 clear ci1 ci3 ci4
 go_loopw [11] (fun wv wr=>∃x:Int,wv = .int .i64 x∧Below w.heap.size w wr∧1≤x∧x≤2000000000∧Hid (x≤askF (cc+block) (othF A i l 0) x∧∀v,1≤v→v+jj≤dd→askF (cc+block) (othF A i l 0) v=v→x≤v)) (fun wv _=>(dd+1-intOf wv).toNat)
 case atStart=>exact⟨cc+block,rfl,Below.refl _ _,by omega,by omega,HI.out⟩
 case round =>
  obtain⟨x,rfl,hb,hx1,hx2,HX⟩:=hrel
  have d4:=below_cell hb CI.out.1
  have d3:=below_cell hb CI.out.2
  have e1:IntKind.i64.wrap (x+jj)=x+jj:=by rw[IntKind.wrap_i64];omega
  go_wp2_with fail
  refine wp_region_noPanic ?_
  refine wp_region_held_drew (S:=fun w'=>w'.cell? ⟨b,o+i*7+4,none⟩=some (.int .i64 jj)∧w'.cell? ⟨b,o+i*7+3,none⟩=some (.int .i64 dd)) (by kernel_rfl) ⟨d4,d3⟩ (fun hHeld=>?_)
  refine tk (i:=0) (n:=23) (v:=?_) ?_ ?_
  rotate_left 1
  ·intro wz hSw
   obtain⟨k0,k1⟩:=hSw
   first|(go_simp;done)|(go_simp;with_reducible rfl)
  simp only[ls0,ls1]
  refine tk (i:=1) (n:=24) (v:=?_) ?_ ?_
  rotate_left 1
  ·intro wz hSw
   obtain⟨k0,k1⟩:=hSw
   first|(go_simp;done)|(go_simp;with_reducible rfl)
  simp only[ls0,ls1]
  refine tk (i:=2) (n:=25) (v:=?_) ?_ ?_
  rotate_left 1
  ·intro wz hSw
   obtain⟨k0,k1⟩:=hSw
   first|(go_simp;done)|(go_simp;with_reducible rfl)
  simp only[ls0,ls1]
  refine tk (i:=3) (n:=26) (v:=?_) ?_ ?_
  rotate_left 1
  ·intro wz hSw
   obtain⟨k0,k1⟩:=hSw
   first|(go_simp;done)|(go_simp;with_reducible rfl)
  simp only[ls0,ls1]
  refine tk (i:=4) (n:=27) (v:=?_) ?_ ?_
  rotate_left 1
  ·intro wz hSw
   obtain⟨k0,k1⟩:=hSw
   first|(go_simp;done)|(go_simp;with_reducible rfl)
  simp only[ls0,ls1]
  refine tk (i:=5) (n:=28) (v:=?_) ?_ ?_
  rotate_left 1
  ·intro wz hSw
   obtain⟨k0,k1⟩:=hSw
   first|(go_simp;done)|(go_simp;with_reducible rfl)
  simp only[ls0,ls1]
  refine tk (i:=6) (n:=29) (v:=?_) ?_ ?_
  rotate_left 1
  ·intro wz hSw
   obtain⟨k0,k1⟩:=hSw
   first|(go_simp;done)|(go_simp;with_reducible rfl)
  simp only[ls0,ls1]
  refine tk (i:=7) (n:=30) (v:=?_) ?_ ?_
  rotate_left 1
  ·intro wz hSw
   obtain⟨k0,k1⟩:=hSw
   first|(go_simp;done)|(go_simp;with_reducible rfl)
  simp only[ls0,ls1]
  refine tk (i:=8) (n:=31) (v:=?_) ?_ ?_
  rotate_left 1
  ·intro wz hSw
   obtain⟨k0,k1⟩:=hSw
   first|(go_simp;done)|(go_simp;with_reducible rfl)
  simp only[ls0,ls1]
  refine tk (i:=9) (n:=32) (v:=?_) ?_ ?_
  rotate_left 1
  ·intro wz hSw
   obtain⟨k0,k1⟩:=hSw
   first|(go_simp;done)|(go_simp;with_reducible rfl)
  simp only[ls0,ls1]
  refine tk (i:=10) (n:=33) (v:=?_) ?_ ?_
  rotate_left 1
  ·intro wz hSw
   obtain⟨k0,k1⟩:=hSw
   first|(go_simp;done)|(go_simp;with_reducible rfl)
  simp only[ls0,ls1]
  refine tk (i:=11) (n:=34) (v:=?_) ?_ ?_
  rotate_left 1
  ·intro wz hSw
   obtain⟨k0,k1⟩:=hSw
   first|(go_simp;done)|(go_simp;with_reducible rfl)
  simp only[ls0,ls1]
  refine tk (i:=12) (n:=35) (v:=?_) ?_ ?_
  rotate_left 1
  ·intro wz hSw
   obtain⟨k0,k1⟩:=hSw
   first|(go_simp;done)|(go_simp;with_reducible rfl)
  simp only[ls0,ls1]
  refine wpAnyH_done (by kernel_rfl) ?_ _
  refine NoPanic.normal ?_
  have HB:Hid (Below w.heap.size w wr.drew):=hb.drew
  clear hHeld d4 d3 hb
  generalize wr.drew=W at *
  by_cases hle:x+jj≤dd
  ·rw[show decide (x+jj≤dd)=true by simp[hle]]
   go_wp2_with fail
   go_loopw [12,39] (fun av iv wl=>∃(j:Nat) (a:Int),j≤l.length∧av = .int .i64 a∧iv = .int .i64 (j:Int)∧Below w.heap.size w wl∧0≤a∧a≤20000+200000000*(j:Int)∧Hid (a+sumO x (othF A i (l.drop j) j)=askF (cc+block) (othF A i l 0) x)) (fun _ iv _=>l.length-(intOf iv).toNat)
   case atStart=>exact⟨0,cc+block,Nat.zero_le _,rfl,rfl,HB.out,by omega,by omega,rfl⟩
   case round =>
    obtain⟨j,a,hjl,rfl,rfl,hbl,ha0,ha1,HQ⟩:=hrel
    by_cases hlt:j<l.length
    ·obtain⟨y,hy,hdr⟩:=drop_at hlt
     have hq:=HQ.out
     rw[othF_at hdr]at hq
     have hsy:=HS.out y (List.mem_of_getElem? hy)
     obtain⟨c0,c1,c2,c3,c4,c5,c6⟩:=ta_at (fun q u hq=>below_cell hbl (HR.out q u hq)) hy
     obtain⟨y1,y2,y3,y4,-,-,y7,y8,-,-⟩:=stands_t hsy
     obtain⟨u1,u2,u3,u4⟩:=up1_range (w:=x) hsy (by omega) (by omega)
     have HL:Hid (Below w.heap.size w wr):=hbl
     have lb:b<wr.heap.size:=World.block_lt_of_cell? _ _ c0
     have hj':(j:Int)<(l.length:Int):=by omega
     have e2:IntKind.i64.wrap (x+y.j)=x+y.j:=by rw[IntKind.wrap_i64];omega
     have e3:IntKind.i64.wrap (x+y.j+y.t)=x+y.j+y.t:=by rw[IntKind.wrap_i64];omega
     have e4:IntKind.i64.wrap (x+y.j+y.t-1)=x+y.j+y.t-1:=by rw[IntKind.wrap_i64];omega
     have e5:(x+y.j+y.t-1).tdiv y.t=(x+y.j+y.t-1) / y.t:=Int.tdiv_eq_ediv_of_nonneg (by omega)
     have e8:IntKind.i64.wrap ((x+y.j+y.t-1) / y.t)=(x+y.j+y.t-1) / y.t:=by rw[IntKind.wrap_i64];omega
     have e6:IntKind.i64.wrap ((x+y.j+y.t-1) / y.t*y.c)=(x+y.j+y.t-1) / y.t*y.c:=by unfold up1 at u1 u2;rw[IntKind.wrap_i64];omega
     have e7:IntKind.i64.wrap (a+(x+y.j+y.t-1) / y.t*y.c)=a+(x+y.j+y.t-1) / y.t*y.c:=by unfold up1 at u1 u2;rw[IntKind.wrap_i64];omega
     have hyt:(y.t == 0)=false:=by simp;omega
     have hyt':y.t≠0:=by omega
     have hyn:¬ y.t=0:=by omega
     by_cases hji:j=i
     ·have hb':((j:Int) != (i:Int))=false:=by simp[hji]
      rw[if_neg (by simp[hji])]at hq
      have HQ':Hid (_=_):=hq
      clear hq hbl HQ hji
      go_wp2_with fail
      exact⟨⟨j+1,a,by omega,rfl,by simp,below_seq HL.out (below_new _ _),by omega,by omega,HQ'.out⟩,by simp[intOf];omega⟩
     ·have hb':((j:Int) != (i:Int))=true:=by simp;omega
      have hji':¬ (j:Int)=(i:Int):=by omega
      have HC:=HA.out (wr.alloc (.cells #[.string y.nm,.int .i64 y.c,.int .i64 y.t,.int .i64 y.d,.int .i64 y.j,.int .i64 y.o,.int .i64 y.p] 38)) (below_seq hbl (below_new _ _)) j hlt
      rcases hA:A j with _|_
      ·rw[if_neg (by simp[hA])]at hq
       rw[hA]at HC
       have HQ':Hid (_=_):=hq
       clear hq hbl HQ hji
       go_wp2_with (go_at_call 134;refine HC.mono ?_;rintro r w1 ⟨rfl,hb1⟩)
       exact⟨⟨j+1,a,by omega,rfl,by simp,below_seq (below_seq HL.out (below_new _ _)) hb1,by omega,by omega,HQ'.out⟩,by simp[intOf];omega⟩
      ·rw[if_pos (by simp[hA,hji]),sumO]at hq
       rw[hA]at HC
       have HQ':Hid (_=_):=hq
       clear hq hbl HQ hji
       have Y2:=fun(W:World) (hB:Below (wr.alloc (.cells #[.string y.nm,.int .i64 y.c,.int .i64 y.t,.int .i64 y.d,.int .i64 y.j,.int .i64 y.o,.int .i64 y.p] 38)).heap.size (wr.alloc (.cells #[.string y.nm,.int .i64 y.c,.int .i64 y.t,.int .i64 y.d,.int .i64 y.j,.int .i64 y.o,.int .i64 y.p] 38)) W)=>(⟨below_cell hB (by go_simp),below_cell hB (by go_simp),below_cell hB (by go_simp)⟩:W.cell? ⟨wr.heap.size,1,none⟩=some (.int .i64 y.c)∧W.cell? ⟨wr.heap.size,2,none⟩=some (.int .i64 y.t)∧W.cell? ⟨wr.heap.size,4,none⟩=some (.int .i64 y.j))
       go_wp2_with (go_at_call 134;refine HC.mono ?_;rintro r w1 ⟨rfl,hb1⟩;obtain⟨t1,t2,t4⟩:=Y2 w1 hb1;clear Y2;have HB1:Hid (Below w.heap.size w w1):=below_seq (below_seq HL.out (below_new _ _)) hb1;clear hb1)
       refine wp_region_noPanic ?_
       refine wp_region_held_drew (S:=fun w'=>w'.cell? ⟨wr.heap.size,1,none⟩=some (.int .i64 y.c)∧w'.cell? ⟨wr.heap.size,2,none⟩=some (.int .i64 y.t)∧w'.cell? ⟨wr.heap.size,4,none⟩=some (.int .i64 y.j)) (by kernel_rfl) ⟨t1,t2,t4⟩ (fun hHeld=>?_)
       refine tk (i:=0) (n:=52) (v:=?_) ?_ ?_
       rotate_left 1
       ·intro wz hSw
        obtain⟨k0,k1,k2⟩:=hSw
        first|(go_simp;done)|(go_simp;with_reducible rfl)
       simp only[ls0,ls1]
       refine tk (i:=1) (n:=53) (v:=?_) ?_ ?_
       rotate_left 1
       ·intro wz hSw
        obtain⟨k0,k1,k2⟩:=hSw
        first|(go_simp;done)|(go_simp;with_reducible rfl)
       simp only[ls0,ls1]
       refine tk (i:=2) (n:=54) (v:=?_) ?_ ?_
       rotate_left 1
       ·intro wz hSw
        obtain⟨k0,k1,k2⟩:=hSw
        first|(go_simp;done)|(go_simp;with_reducible rfl)
       simp only[ls0,ls1]
       refine tk (i:=3) (n:=55) (v:=?_) ?_ ?_
       rotate_left 1
       ·intro wz hSw
        obtain⟨k0,k1,k2⟩:=hSw
        first|(go_simp;done)|(go_simp;with_reducible rfl)
       simp only[ls0,ls1]
       refine tk (i:=4) (n:=56) (v:=?_) ?_ ?_
       rotate_left 1
       ·intro wz hSw
        obtain⟨k0,k1,k2⟩:=hSw
        first|(go_simp;done)|(go_simp;with_reducible rfl)
       simp only[ls0,ls1]
       refine tk (i:=5) (n:=57) (v:=?_) ?_ ?_
       rotate_left 1
       ·intro wz hSw
        obtain⟨k0,k1,k2⟩:=hSw
        first|(go_simp;done)|(go_simp;with_reducible rfl)
       simp only[ls0,ls1]
       refine tk (i:=6) (n:=58) (v:=?_) ?_ ?_
       rotate_left 1
       ·intro wz hSw
        obtain⟨k0,k1,k2⟩:=hSw
        first|(go_simp;done)|(go_simp;with_reducible rfl)
       simp only[ls0,ls1]
       refine tk (i:=7) (n:=59) (v:=?_) ?_ ?_
       rotate_left 1
       ·intro wz hSw
        obtain⟨k0,k1,k2⟩:=hSw
        first|(go_simp;done)|(go_simp;with_reducible rfl)
       simp only[ls0,ls1]
       refine tk (i:=8) (n:=60) (v:=?_) ?_ ?_
       rotate_left 1
       ·intro wz hSw
        obtain⟨k0,k1,k2⟩:=hSw
        first|(go_simp;done)|(go_simp;with_reducible rfl)
       simp only[ls0,ls1]
       refine tk (i:=9) (n:=61) (v:=?_) ?_ ?_
       rotate_left 1
       ·intro wz hSw
        obtain⟨k0,k1,k2⟩:=hSw
        first|(go_simp;done)|(go_simp;with_reducible rfl)
       simp only[ls0,ls1]
       refine tk (i:=10) (n:=62) (v:=?_) ?_ ?_
       rotate_left 1
       ·intro wz hSw
        obtain⟨k0,k1,k2⟩:=hSw
        first|(go_simp;done)|(go_simp;with_reducible rfl)
       simp only[ls0,ls1]
       refine tk (i:=11) (n:=63) (v:=?_) ?_ ?_
       rotate_left 1
       ·intro wz hSw
        obtain⟨k0,k1,k2⟩:=hSw
        first|(go_simp;done)|(go_simp;with_reducible rfl)
       simp only[ls0,ls1]
       refine tk (i:=12) (n:=64) (v:=?_) ?_ ?_
       rotate_left 1
       ·intro wz hSw
        obtain⟨k0,k1,k2⟩:=hSw
        first|(go_simp;done)|(go_simp;with_reducible rfl)
       simp only[ls0,ls1]
       refine tk (i:=13) (n:=65) (v:=?_) ?_ ?_
       rotate_left 1
       ·intro wz hSw
        obtain⟨k0,k1,k2⟩:=hSw
        first|(go_simp;done)|(go_simp;with_reducible rfl)
       simp only[ls0,ls1]
       refine tk (i:=14) (n:=66) (v:=?_) ?_ ?_
       rotate_left 1
       ·intro wz hSw
        obtain⟨k0,k1,k2⟩:=hSw
        first|(go_simp;done)|(go_simp;with_reducible rfl)
       simp only[ls0,ls1]
       refine tk (i:=15) (n:=67) (v:=?_) ?_ ?_
       rotate_left 1
       ·intro wz hSw
        obtain⟨k0,k1,k2⟩:=hSw
        first|(go_simp;done)|(go_simp;with_reducible rfl)
       simp only[ls0,ls1]
       refine tk (i:=16) (n:=12) (v:=?_) ?_ ?_
       rotate_left 1
       ·intro wz hSw
        obtain⟨k0,k1,k2⟩:=hSw
        first|(go_simp;done)|(go_simp;with_reducible rfl)
       simp only[ls0,ls1]
       refine wpAnyH_done (by kernel_rfl) ?_ _
       refine NoPanic.normal ?_
       clear hHeld t1 t2 t4
       go_wp2_with fail
       exact⟨⟨j+1,a+up1 x y,by omega,rfl,by simp,HB1.out.drew,by omega,by omega,by have:=HQ'.out;show _=_;omega⟩,by simp[intOf];omega⟩
    ·have hje:j=l.length:=by omega
     subst hje
     have hq:=HQ.out
     rw[List.drop_length,othF,sumO,Int.add_zero]at hq
     have HL:Hid (Below w.heap.size w wr):=hbl
     have HQ':Hid (_=_):=hq
     clear hq hbl HQ
     by_cases hfx:a=x
     ·subst hfx
      have d4:=below_cell HL.out CI.out.1
      go_wp2_with fail
      refine bodyPost_ret (worst_ends rfl rfl) rfl ?_
      have e:wOf (askF (cc+block) (othF A i l 0)) jj dd=a+jj:=wOf_hit (by omega) hx1 hle HQ'.out.symm fun v hv1 hv2 he=>by
       have:=HX.out.2 v hv1 (by omega) he
       omega
      refine⟨?_,by first|exact HL.out|exact HL.out.drew⟩
      rw[e]
      congr 4
      simp
      omega
     ·have hfb:(a == x)=false:=by simp[hfx]
      go_wp2_with fail
      refine⟨?_,?_⟩
      ·have q:=HQ'.out
       have m:=HX.out.1
       have m2:=HO.out x a (by omega)
       exact⟨a,rfl,HL.out,by omega,by omega,by omega,fun v hv1 hv2 he=>by have g1:=HX.out.2 v hv1 hv2 he;have g2:=HO.out x v g1;omega⟩
      ·have q:=HQ'.out
       have m:=HX.out.1
       simp[intOf]
       omega
  ·go_wp2_with fail
   refine bodyPost_ret (worst_ends rfl rfl) rfl ?_
   have e:wOf (askF (cc+block) (othF A i l 0)) jj dd=0:=wOf_none fun v hv1 hv2 he=>by
    have:=HX.out.2 v hv1 hv2 he
    omega
   exact⟨by rw[e];rfl,HB.out⟩
theorem heap_new3(w:World)(o o' o'':Obj):(((w.alloc o).alloc o').alloc o'').heap[w.heap.size+1+1]?=some o'':=by
 have:=heap_alloc_new ((w.alloc o).alloc o') o''
 rw[show((w.alloc o).alloc o').heap.size=w.heap.size+1+1 by simp]at this
 exact this
theorem resp_ends{w:World}{g:Nat}{c k p:Value}{a:Act}(h:w.heap[g]?=some (.cells #[c,k] 33 (0,0)))(h2:a.tmps[6]?.getD undef=p)(h3:a.tmps[7]?.getD undef = .pointer (some ⟨g,0,none⟩)) :
  (results Tryz.f74 a.tmps).run Tryz.prog w = .ok (.tuple #[p,.agg #[c,k]]) w:=by
 obtain⟨c1,f1,l1⟩:=cells_of (l:=[_,_]) h
 have c10:=c1 0 _ rfl
 have c11:=c1 1 _ rfl
 simp[results,Tryz.results74,go_sem,h2,h3,c10,c11]
theorem respF_bad{l:List Ta}{i block:Int}(h:i<0∨(l.length:Int)≤i∨block<0∨10000<block):respF l i block=(0,(3,0)):=by
 unfold respF;rw[if_pos h]
set_option maxRecDepth 20000 in
set_option maxHeartbeats 4000000 in
theorem resp_any(w:World)(l:List Ta)(v:Value)(i block:Int)(hl:l.length≤8)(hs:∀x∈l,stands x=true)(hv:RowSl Ta.vals w l v):Calls Tryz.prog 74 #[v,.int .i64 i,.int .i64 block] w fun r w'=>r = .returned (.tuple #[.int .i64 (respF l i block).1,.agg #[.int .i64 (respF l i block).2.1,.int .i64 (respF l i block).2.2]])∧Below w.heap.size w w':=by
 obtain⟨ad,c,rfl⟩:=hv.len
 have HV:Hid (RowSl Ta.vals w l (.slice ad l.length c)):=hv
 have HE:Hid (∀o o' o'':Obj,Below w.heap.size w (((w.alloc o).alloc o').alloc o'')):=fun o o' o''=>below_seq (below_seq (below_new _ _) (below_new _ _)) (below_new _ _)
 have HS:Hid (∀x∈l,stands x=true):=hs
 clear hv hs
 by_cases h1:i<0
 ·rw[respF_bad (.inl h1)]
  go_enter Tryz.func74,Tryz.ntmps74
  go_wp2_with fail
  refine bodyPost_ret (resp_ends (heap_new3 _ _ _ _) rfl rfl) rfl ?_
  exact⟨rfl,HE.out _ _ _⟩
 by_cases h2:(l.length:Int)≤i
 ·rw[respF_bad (.inr (.inl h2))]
  go_enter Tryz.func74,Tryz.ntmps74
  go_wp2_with fail
  refine bodyPost_ret (resp_ends (heap_new3 _ _ _ _) rfl rfl) rfl ?_
  exact⟨rfl,HE.out _ _ _⟩
 rcases h3:isTm block with _|_
 ·rw[respF_bad (.inr (.inr (by unfold isTm at h3;simp at h3;omega)))]
  go_enter Tryz.func74,Tryz.ntmps74
  go_wp2_with (go_at_call 132;refine(isTime_any _ _).mono ?_;rintro r w1 ⟨rfl,rfl⟩;rw[h3])
  refine bodyPost_ret (resp_ends (heap_new3 _ _ _ _) rfl rfl) rfl ?_
  exact⟨rfl,HE.out _ _ _⟩
 ·have hbl:0≤block∧block≤10000:=by unfold isTm at h3;simp at h3;omega
  obtain⟨n,rfl⟩:∃n:Nat,i=(n:Int):=⟨i.toNat,by omega⟩
  have er:respF l (n:Int) block=if respR l n block=0 then (0,(13,(n:Int))) else (respR l n block,(0,0)):=by
   unfold respF
   rw[if_neg (by omega),Int.toNat_natCast]
  rw[er]
  have HF:Hid (FB w (((w.alloc (.cells #[.slice ad l.length c] 22)).alloc (.cells #[.int .i64 (n:Int)] 3)).alloc (.cells #[.int .i64 0,.int .i64 0] 33)) (w.heap.size+1+1)):=⟨HE.out _ _ _,heap_new3 _ _ _ _,by omega⟩
  have HW:=worst_any (((w.alloc (.cells #[.slice ad l.length c] 22)).alloc (.cells #[.int .i64 (n:Int)] 3)).alloc (.cells #[.int .i64 0,.int .i64 0] 33)) l (.slice ad l.length c) w.heap.size (w.heap.size+1) n block hl HS.out (by omega) hbl.1 hbl.2 (HV.out.below (HE.out _ _ _)) (by go_simp) (by go_simp)
  have HN:Hid ((((w.alloc (.cells #[.slice ad l.length c] 22)).alloc (.cells #[.int .i64 (n:Int)] 3)).alloc (.cells #[.int .i64 0,.int .i64 0] 33)).cell? ⟨w.heap.size+1,0,none⟩=some (.int .i64 (n:Int))):=by
   show _=_
   go_simp
  clear er
  generalize respR l n block=z at *
  by_cases hz:z=0
  ·rw[if_pos hz]
   rw[show decide (z≠0)=false by simp[hz]]at HW
   go_enter Tryz.func74,Tryz.ntmps74
   go_wp2_with (go_at_call 132;refine(isTime_any _ _).mono ?_;rintro r w1 ⟨rfl,rfl⟩;rw[h3])
   go_wp2_with (go_at_call 133;refine HW.mono ?_;rintro r w1 ⟨rfl,hb1⟩;have H1:Hid (FB w w1 (w.heap.size+1+1)):=HF.out.grow hb1;have hn:=below_cell hb1 HN.out;obtain⟨rs1,rf1,rl1⟩:=cells_of (l:=[_,_]) H1.out.res;have r10:=rs1 0 _ rfl;have r11:=rs1 1 _ rfl;have f10:=rf1 0;have f11:=rf1 1;clear rs1 rf1 hb1 HW)
   go_region
   all_goals go_wp2_with fail
   all_goals
    refine bodyPost_ret (resp_ends (set_two H1.out.res) rfl rfl) rfl ?_
    first|exact⟨rfl,H1.out.set _ _⟩|exact⟨rfl,(H1.out.set _ _).drew⟩
  ·rw[if_neg hz]
   rw[show decide (z≠0)=true by simp[hz]]at HW
   go_enter Tryz.func74,Tryz.ntmps74
   go_wp2_with (go_at_call 132;refine(isTime_any _ _).mono ?_;rintro r w1 ⟨rfl,rfl⟩;rw[h3])
   go_wp2_with (go_at_call 133;refine HW.mono ?_;rintro r w1 ⟨rfl,hb1⟩;have H1:Hid (FB w w1 (w.heap.size+1+1)):=HF.out.grow hb1;have hn:=below_cell hb1 HN.out;obtain⟨rs1,rf1,rl1⟩:=cells_of (l:=[_,_]) H1.out.res;have r10:=rs1 0 _ rfl;have r11:=rs1 1 _ rfl;have f10:=rf1 0;have f11:=rf1 1;clear rs1 rf1 hb1 HW)
   refine bodyPost_ret (resp_ends (set_two H1.out.res) rfl rfl) rfl ?_
   exact⟨rfl,H1.out.set _ _⟩
end Go.Proofs.YtccoobcggbbcialGreatDoor
