import Derived.Test.YtccoobcggbbcialGreatDoorGQA1
import Derived.Test.YtccoobcggbbcialGreatDoorGLa0
import Derived.Deep.QuietTactic
import Derived.Test.YtccoobcggbbcialGreatDoorGKC1
import Derived.Shelf.GgSortFunc.Small
namespace Go.Proofs.YtccoobcggbbcialGreatDoor
open Go.ChangeShapes Go.WideShapes Go.ChangeAt Go.RowKit
open Keep
set_option maxRecDepth 20000 in
set_option maxHeartbeats 4000000 in
theorem len_any(W:World)(l:List Pa)(tk:List Int)(pv tv:Value)(gp gt part cm:Nat)(hp:W.cell? ⟨gp,0,none⟩=some pv)(ht:W.cell? ⟨gt,0,none⟩=some tv)(hv:RowSl Pa.vals W l pv)(htv:RowSl nuV W tk tv)(hok:PsOk l)(hpt:part<l.length)(hcm:cm≤100000)(hlt:tk.length≤1000000)(htk:∀z∈tk,0≤z):Calls Tryz.prog 61 #[.int .i64 (part:Int),.int .i64 (cm:Int),.pointer (some ⟨gt,0,none⟩),.pointer (some ⟨gp,0,none⟩)] W fun r w'=>r = .returned (.int .i64 (wkF l tk part cm))∧Below W.heap.size W w':=by
 obtain⟨ad,c,rfl,-,hcap,hrow⟩:=hv
 rcases hrow with h|⟨b,o,rfl,hrow⟩
 ·rw[h]at hpt;simp at hpt
 obtain⟨x,hx⟩:∃x,l[part]?=some x:=⟨_,List.getElem?_eq_getElem hpt⟩
 obtain⟨y0,y1,y2,y3,y4,y5,y6⟩:=pa7_at hrow hx
 have hxd:l.getD part paZ=x:=getD_some hx
 have hpo:=hok.at_ part x hx
 have k1:=hpo.c
 have k2:=hpo.cd
 have k3:=hpo.dt
 have k4:=hpo.t
 obtain⟨wz,hwz⟩:∃wz,wkF l tk part cm=wz:=⟨_,rfl⟩
 have HWZ:Hid (wkF l tk part cm=wz):=hwz
 have HX:Hid (l.getD part paZ=x):=hxd
 have h8:=hok.most
 rw[hwz]
 obtain⟨at',ct,rfl,hnil,hct,htr⟩:=htv
 have lp:=World.block_lt_of_cell? _ _ hp
 have lt:=World.block_lt_of_cell? _ _ ht
 have lb:=World.block_lt_of_cell? _ _ y3
 have hpi:(part:Int)<(l.length:Int):=by omega
 obtain⟨xco,xfr,xse,xc,xt,xd,xp⟩:=x
 dsimp only at *
 clear hrow y0 y1 y2 y4 y5 y6 hx hok hpo hwz hxd
 by_cases h0:tk.length=0
 ·have hb:((tk.length:Int) == 0)=true:=by simp[h0]
  have hz:wz=xc:=by
   rw[← HWZ.out]
   unfold wkF
   rw[if_pos h0,HX.out]
  subst hz
  clear HWZ HX htr hnil
  go_enter Tryz.func61,Tryz.ntmps61
  rw[h0]at ht
  go_wp2_with fail
  go_ret
  exact⟨rfl,Below.refl _ _⟩
 rcases htr with h|⟨bt,ot,rfl,htr⟩
 ·rw[h]at h0;simp at h0
 have hb:((tk.length:Int) == 0)=false:=by simpa using h0
 obtain⟨ix,hix⟩:∃ix,(cm*l.length+part) % tk.length=ix:=⟨_,rfl⟩
 have hixl:ix<tk.length:=by rw[← hix];exact Nat.mod_lt _ (by omega)
 obtain⟨tz,htz⟩:∃tz,tk[ix]?=some tz:=⟨_,List.getElem?_eq_getElem hixl⟩
 have z0:=nu_at htr htz
 have htz0:=htk tz (List.mem_of_getElem? htz)
 have hz:wz=1+tz % xc:=by
  rw[← HWZ.out]
  unfold wkF
  rw[if_neg h0,HX.out,hix,getD_some htz]
 have hn8:cm*l.length≤100000*8:=Nat.mul_le_mul hcm h8
 have e1:IntKind.i64.wrap ((cm:Int)*(l.length:Int))=((cm*l.length:Nat):Int):=by
  rw[← Int.natCast_mul,IntKind.wrap_i64];omega
 have e2:IntKind.i64.wrap (((cm*l.length:Nat):Int)+(part:Int))=((cm*l.length+part:Nat):Int):=by
  rw[IntKind.wrap_i64];omega
 have e3:((cm*l.length+part:Nat):Int).tmod (tk.length:Int)=(ix:Int):=by
  rw[Int.tmod_eq_emod_of_nonneg (by omega),← hix];rfl
 have e4:IntKind.i64.wrap (ix:Int)=(ix:Int):=by rw[IntKind.wrap_i64];omega
 have hm0:=Int.emod_nonneg tz (show xc≠0 by omega)
 have hm1:=Int.emod_lt_of_pos tz (show 0<xc by omega)
 have e5:tz.tmod xc=tz % xc:=Int.tmod_eq_emod_of_nonneg htz0
 have e6:IntKind.i64.wrap (tz % xc)=tz % xc:=by rw[IntKind.wrap_i64];omega
 have e7:IntKind.i64.wrap (tz % xc+1)=1+tz % xc:=by rw[IntKind.wrap_i64];omega
 have hix2:(ix:Int)<(tk.length:Int):=by omega
 have hc0:¬ xc=0:=by omega
 have ht0:¬ (tk.length:Int)=0:=by omega
 have lbt:=World.block_lt_of_cell? _ _ z0
 subst hz
 have hp0:=hp
 clear HWZ HX htr hnil htz hix hp
 generalize tz % xc=tm at *
 generalize cm*l.length+part=q2 at *
 generalize cm*l.length=q1 at *
 go_enter Tryz.func61,Tryz.ntmps61
 go_upto_region 3 with fail
 go_quiet (fail)
 go_wp2_with fail
 go_ret
 exact⟨rfl,below_drewN' (n:=nq)⟩
theorem th_cells{W:World}{b:Nat}{x:Th}(h:W.heap[b]?=some (.cells (Th.arr x) 133 (0,0))):W.cell? ⟨b,0,none⟩=some (.int .i64 (x.pt:Int))∧W.cell? ⟨b,1,none⟩=some (.int .i64 (x.cm:Int))∧W.cell? ⟨b,2,none⟩=some (.int .i64 x.si)∧W.cell? ⟨b,3,none⟩=some (.int .i64 x.lf)∧W.frozen? ⟨b,3,none⟩=false∧b<W.heap.size:=by
 obtain⟨c,f,l⟩:=cells_of (l:=[_,_,_,_]) h
 exact⟨c 0 _ rfl,c 1 _ rfl,c 2 _ rfl,c 3 _ rfl,f 3,l⟩
set_option maxRecDepth 20000 in
set_option maxHeartbeats 8000000 in
theorem ahJ_any(W:World)(l:List Pa)(pv:Value)(bl:Nat)(gJ g o0 n c0 ix iy bx by_:Nat)(x y:Th)(hJ:W.cell? ⟨gJ,0,none⟩=some (.slice (some ⟨g,o0,none⟩) n c0))(hix:ix<n)(hiy:iy<n)(hcx:W.cell? ⟨g,o0+ix,none⟩=some (pvv bx))(hcy:W.cell? ⟨g,o0+iy,none⟩=some (pvv by_))(htx:W.heap[bx]?=some (.cells (Th.arr x) 133 (0,0)))(hty:W.heap[by_]?=some (.cells (Th.arr y) 133 (0,0)))(hp:W.cell? ⟨bl,0,none⟩=some pv)(hv:RowSl Pa.vals W l pv)(hx1:x.pt<l.length)(hy1:y.pt<l.length) :
  Calls Tryz.prog 63 #[.int .i64 (ix:Int),.int .i64 (iy:Int),.pointer (some ⟨gJ,0,none⟩),.pointer (some ⟨bl,0,none⟩)] W fun r w'=>r = .returned (.bool (ahJ l x y))∧Below W.heap.size W w':=by
 obtain⟨ad,c,rfl,-,hcap,hrow⟩:=hv
 rcases hrow with h|⟨b,o,rfl,hrow⟩
 ·rw[h]at hx1;simp at hx1
 obtain⟨p,hpx⟩:∃p,l[x.pt]?=some p:=⟨_,List.getElem?_eq_getElem hx1⟩
 obtain⟨q,hqx⟩:∃q,l[y.pt]?=some q:=⟨_,List.getElem?_eq_getElem hy1⟩
 obtain⟨y0,y1,y2,y3,y4,y5,y6⟩:=pa7_at hrow hpx
 obtain⟨z0,z1,z2,z3,z4,z5,z6⟩:=pa7_at hrow hqx
 have e1:l.getD x.pt paZ=p:=getD_some hpx
 have e2:l.getD y.pt paZ=q:=getD_some hqx
 have hxi:(x.pt:Int)<(l.length:Int):=by omega
 have hyi:(y.pt:Int)<(l.length:Int):=by omega
 have lbl:=World.block_lt_of_cell? _ _ hp
 have lb:=World.block_lt_of_cell? _ _ y6
 obtain⟨zz,hz⟩:∃zz,ahJ l x y=zz:=⟨_,rfl⟩
 have HZ:Hid (zz=if p.p≠q.p then decide (q.p<p.p) else if x.si≠y.si then decide (x.si<y.si) else if x.pt≠y.pt then decide (x.pt<y.pt) else decide (x.cm<y.cm)):=by
  rw[← hz]
  unfold ahJ
  rw[e1,e2]
  rfl
 rw[hz]
 clear y0 y1 y2 y3 y4 y5 z0 z1 z2 z3 z4 z5 e1 e2 hpx hqx hrow hz
 obtain⟨t0,t1,t2,t3,-,lx⟩:=th_cells htx
 obtain⟨u0,u1,u2,u3,-,ly⟩:=th_cells hty
 obtain⟨xp,xc,xs,xl⟩:=x
 obtain⟨yp,yc,ys,yl⟩:=y
 dsimp only at *
 obtain⟨pco,pfr,pse,pc,ptt,pd,pp⟩:=p
 obtain⟨qco,qfr,qse,qc,qt,qd,qp⟩:=q
 dsimp only at *
 unfold pvv at hcx hcy
 have lJ:=World.block_lt_of_cell? _ _ hJ
 have lg:=World.block_lt_of_cell? _ _ hcx
 have hixi:(ix:Int)<(n:Int):=by omega
 have hiyi:(iy:Int)<(n:Int):=by omega
 clear htx hty hix hiy
 go_enter Tryz.func63,Tryz.ntmps63
 go_upto_region 1 with fail
 go_quiet (fail)
 go_upto_region 2 with fail
 by_cases h0:pp=qp
 rotate_left 1
 ·have n0:(pp != qp)=true:=by simp;omega
  have hzz:=HZ.out
  rw[if_pos h0]at hzz
  by_cases g0:qp<pp
  ·have hf:zz=true:=by rw[hzz];simp;omega
   subst hf
   clear hzz HZ
   go_quiet (fail)
   go_upto_region 3 with fail
   go_quiet (fail)
   go_wp2_with fail
   go_ret
   exact⟨rfl,(by first|exact below_drewN'|exact below_seq below_drewN' below_drewN'|(simp only[World.drewN_drewN];exact below_drewN'))⟩
  ·have hf:zz=false:=by rw[hzz];simp;omega
   subst hf
   clear hzz HZ
   go_quiet (fail)
   go_upto_region 3 with fail
   go_quiet (fail)
   go_wp2_with fail
   go_ret
   exact⟨rfl,(by first|exact below_drewN'|exact below_seq below_drewN' below_drewN'|(simp only[World.drewN_drewN];exact below_drewN'))⟩
 have n0:(pp != qp)=false:=by simp;omega
 go_quiet (fail)
 go_upto_region 4 with fail
 by_cases h1:xs=ys
 rotate_left 1
 ·have n1:(xs != ys)=true:=by simp;omega
  have hzz:=HZ.out
  rw[if_neg (by simpa using h0)]at hzz
  rw[if_pos h1]at hzz
  by_cases g1:xs<ys
  ·have hf:zz=true:=by rw[hzz];simp;omega
   subst hf
   clear hzz HZ
   go_quiet (fail)
   go_upto_region 5 with fail
   go_quiet (fail)
   go_wp2_with fail
   go_ret
   exact⟨rfl,(by first|exact below_drewN'|exact below_seq below_drewN' below_drewN'|(simp only[World.drewN_drewN];exact below_drewN'))⟩
  ·have hf:zz=false:=by rw[hzz];simp;omega
   subst hf
   clear hzz HZ
   go_quiet (fail)
   go_upto_region 5 with fail
   go_quiet (fail)
   go_wp2_with fail
   go_ret
   exact⟨rfl,(by first|exact below_drewN'|exact below_seq below_drewN' below_drewN'|(simp only[World.drewN_drewN];exact below_drewN'))⟩
 have n1:(xs != ys)=false:=by simp;omega
 go_quiet (fail)
 go_upto_region 6 with fail
 by_cases h2:xp=yp
 rotate_left 1
 ·have n2:((xp:Int) != (yp:Int))=true:=by simp;omega
  have hzz:=HZ.out
  rw[if_neg (by simpa using h0)]at hzz
  rw[if_neg (by simpa using h1)]at hzz
  rw[if_pos h2]at hzz
  by_cases g2:(xp:Int)<(yp:Int)
  ·have hf:zz=true:=by rw[hzz];simp;omega
   subst hf
   clear hzz HZ
   go_quiet (fail)
   go_upto_region 7 with fail
   go_quiet (fail)
   go_wp2_with fail
   go_ret
   exact⟨rfl,(by first|exact below_drewN'|exact below_seq below_drewN' below_drewN'|(simp only[World.drewN_drewN];exact below_drewN'))⟩
  ·have hf:zz=false:=by rw[hzz];simp;omega
   subst hf
   clear hzz HZ
   go_quiet (fail)
   go_upto_region 7 with fail
   go_quiet (fail)
   go_wp2_with fail
   go_ret
   exact⟨rfl,(by first|exact below_drewN'|exact below_seq below_drewN' below_drewN'|(simp only[World.drewN_drewN];exact below_drewN'))⟩
 have n2:((xp:Int) != (yp:Int))=false:=by simp;omega
 go_quiet (fail)
 go_upto_region 8 with fail
 have hzz:=HZ.out
 rw[if_neg (by simpa using h0)]at hzz
 rw[if_neg (by simpa using h1)]at hzz
 rw[if_neg (by simpa using h2)]at hzz
 by_cases g9:(xc:Int)<(yc:Int)
 ·have hf:zz=true:=by rw[hzz];simp;omega
  subst hf
  clear hzz HZ
  go_quiet (fail)
  go_wp2_with fail
  go_ret
  exact⟨rfl,(by first|exact below_drewN'|exact below_seq below_drewN' below_drewN'|(simp only[World.drewN_drewN];exact below_drewN'))⟩
 ·have hf:zz=false:=by rw[hzz];simp;omega
  subst hf
  clear hzz HZ
  go_quiet (fail)
  go_wp2_with fail
  go_ret
  exact⟨rfl,(by first|exact below_drewN'|exact below_seq below_drewN' below_drewN'|(simp only[World.drewN_drewN];exact below_drewN'))⟩
set_option maxRecDepth 20000 in
set_option maxHeartbeats 8000000 in
theorem ahM_any(W:World)(gJ g o0 n c0 ix iy bx by_:Nat)(x y:Th)(hJ:W.cell? ⟨gJ,0,none⟩=some (.slice (some ⟨g,o0,none⟩) n c0))(hix:ix<n)(hiy:iy<n)(hcx:W.cell? ⟨g,o0+ix,none⟩=some (pvv bx))(hcy:W.cell? ⟨g,o0+iy,none⟩=some (pvv by_))(htx:W.heap[bx]?=some (.cells (Th.arr x) 133 (0,0)))(hty:W.heap[by_]?=some (.cells (Th.arr y) 133 (0,0))) :
  Calls Tryz.prog 64 #[.int .i64 (ix:Int),.int .i64 (iy:Int),.pointer (some ⟨gJ,0,none⟩)] W fun r w'=>r = .returned (.bool (ahM x y))∧Below W.heap.size W w':=by
 obtain⟨zz,hz⟩:∃zz,ahM x y=zz:=⟨_,rfl⟩
 have HZ:Hid (zz=if x.pt≠y.pt then decide (x.pt<y.pt) else if x.si≠y.si then decide (x.si<y.si) else decide (x.cm<y.cm)):=by
  rw[← hz]
  rfl
 rw[hz]
 clear hz
 obtain⟨t0,t1,t2,t3,-,lx⟩:=th_cells htx
 obtain⟨u0,u1,u2,u3,-,ly⟩:=th_cells hty
 obtain⟨xp,xc,xs,xl⟩:=x
 obtain⟨yp,yc,ys,yl⟩:=y
 dsimp only at *
 unfold pvv at hcx hcy
 have lJ:=World.block_lt_of_cell? _ _ hJ
 have lg:=World.block_lt_of_cell? _ _ hcx
 have hixi:(ix:Int)<(n:Int):=by omega
 have hiyi:(iy:Int)<(n:Int):=by omega
 clear htx hty hix hiy
 go_enter Tryz.func64,Tryz.ntmps64
 go_upto_region 1 with fail
 go_quiet (fail)
 go_upto_region 2 with fail
 by_cases h0:xp=yp
 rotate_left 1
 ·have n0:((xp:Int) != (yp:Int))=true:=by simp;omega
  have hzz:=HZ.out
  rw[if_pos h0]at hzz
  by_cases g0:(xp:Int)<(yp:Int)
  ·have hf:zz=true:=by rw[hzz];simp;omega
   subst hf
   clear hzz HZ
   go_quiet (fail)
   go_upto_region 3 with fail
   go_quiet (fail)
   go_wp2_with fail
   go_ret
   exact⟨rfl,(by first|exact below_drewN'|exact below_seq below_drewN' below_drewN'|(simp only[World.drewN_drewN];exact below_drewN'))⟩
  ·have hf:zz=false:=by rw[hzz];simp;omega
   subst hf
   clear hzz HZ
   go_quiet (fail)
   go_upto_region 3 with fail
   go_quiet (fail)
   go_wp2_with fail
   go_ret
   exact⟨rfl,(by first|exact below_drewN'|exact below_seq below_drewN' below_drewN'|(simp only[World.drewN_drewN];exact below_drewN'))⟩
 have n0:((xp:Int) != (yp:Int))=false:=by simp;omega
 go_quiet (fail)
 go_upto_region 4 with fail
 by_cases h1:xs=ys
 rotate_left 1
 ·have n1:(xs != ys)=true:=by simp;omega
  have hzz:=HZ.out
  rw[if_neg (by simpa using h0)]at hzz
  rw[if_pos h1]at hzz
  by_cases g1:xs<ys
  ·have hf:zz=true:=by rw[hzz];simp;omega
   subst hf
   clear hzz HZ
   go_quiet (fail)
   go_upto_region 5 with fail
   go_quiet (fail)
   go_wp2_with fail
   go_ret
   exact⟨rfl,(by first|exact below_drewN'|exact below_seq below_drewN' below_drewN'|(simp only[World.drewN_drewN];exact below_drewN'))⟩
  ·have hf:zz=false:=by rw[hzz];simp;omega
   subst hf
   clear hzz HZ
   go_quiet (fail)
   go_upto_region 5 with fail
   go_quiet (fail)
   go_wp2_with fail
   go_ret
   exact⟨rfl,(by first|exact below_drewN'|exact below_seq below_drewN' below_drewN'|(simp only[World.drewN_drewN];exact below_drewN'))⟩
 have n1:(xs != ys)=false:=by simp;omega
 go_quiet (fail)
 go_upto_region 6 with fail
 have hzz:=HZ.out
 rw[if_neg (by simpa using h0)]at hzz
 rw[if_neg (by simpa using h1)]at hzz
 by_cases g9:(xc:Int)<(yc:Int)
 ·have hf:zz=true:=by rw[hzz];simp;omega
  subst hf
  clear hzz HZ
  go_quiet (fail)
  go_wp2_with fail
  go_ret
  exact⟨rfl,(by first|exact below_drewN'|exact below_seq below_drewN' below_drewN'|(simp only[World.drewN_drewN];exact below_drewN'))⟩
 ·have hf:zz=false:=by rw[hzz];simp;omega
  subst hf
  clear hzz HZ
  go_quiet (fail)
  go_wp2_with fail
  go_ret
  exact⟨rfl,(by first|exact below_drewN'|exact below_seq below_drewN' below_drewN'|(simp only[World.drewN_drewN];exact below_drewN'))⟩
end Go.Proofs.YtccoobcggbbcialGreatDoor
namespace Go.Proofs.YtccoobcggbbcialGreatDoor.Stab
open Go.ChangeShapes Go.WideShapes Go.ChangeAt Go.RowKit Go.Shelf Go.Lib
open Go.Sort (swp swp_get swp_size SWO SWO.asymmA PermIn permIn_refl permIn_trans permIn_mono permIn_all swp_permIn grow)
structure HS3 (w:World) (gT n:Nat) (enc:Nat→Value) (pre ex:List Value) (W:World) (d:Array Nat):Prop where
 gr:w.grownBy W (some gT)
 row:W.heap[gT]?=some (.cells (pre++(d.toList.map enc++ex)).toArray 131 (0,0))
 sz:d.size=n
 rg:∀p,p<n→d[p]!<n
theorem HS3.lt{w:World}{gT n:Nat}{enc:Nat→Value}{pre ex:List Value}{W:World}{d:Array Nat}(h:HS3 w gT n enc pre ex W d):gT<W.heap.size:=(Array.getElem?_eq_some_iff.1 h.row).1
theorem HS3.alloc{w:World}{gT n:Nat}{enc:Nat→Value}{pre ex:List Value}{W:World}{d:Array Nat}(h:HS3 w gT n enc pre ex W d)(o:Obj):HS3 w gT n enc pre ex (W.alloc o) d :=
 ⟨h.gr.trans (World.grownBy_alloc _ _ _),by rw[Below.heap_alloc _ _ _ (by have:=h.lt;omega)];exact h.row,h.sz,h.rg⟩
theorem HS3.below{w:World}{gT n:Nat}{enc:Nat→Value}{pre ex:List Value}{W W':World}{d:Array Nat}(h:HS3 w gT n enc pre ex W d)(hb:Below W.heap.size W W'):HS3 w gT n enc pre ex W' d∧W.grownBy W' (some gT):=by
 have hg:W.grownBy W' (some gT):=⟨hb.os,hb.tape,hb.output,hb.size,fun k hk _=>hb.block k hk⟩
 exact⟨⟨h.gr.trans hg,(hb.block _ h.lt).trans h.row,h.sz,h.rg⟩,hg⟩
theorem HS3.cell{w:World}{gT n:Nat}{enc:Nat→Value}{pre ex:List Value}{W:World}{d:Array Nat}(h:HS3 w gT n enc pre ex W d){i:Nat}(hi:i<n):W.cell? ⟨gT,pre.length+i,none⟩=some (enc d[i]!)∧W.frozen? ⟨gT,pre.length+i,none⟩=false:=by
 obtain⟨c,f,-⟩:=cells_of h.row
 have hi':i<d.size:=by rw[h.sz];exact hi
 refine⟨c (pre.length+i) _ ?_,f _⟩
 rw[List.getElem?_append_right (by omega),show pre.length+i-pre.length=i by omega]
 rw[List.getElem?_append_left (by simpa using hi'),List.getElem?_map,Array.getElem?_toList,Array.getElem?_eq_getElem hi',getElem!_pos d i hi']
 rfl
theorem swp_list(enc:Nat→Value)(pre ex:List Value)(d:Array Nat){i j:Nat}(hi:i<d.size)(hj:j<d.size):((pre++(d.toList.map enc++ex)).set (pre.length+i) (enc d[j]!)).set (pre.length+j) (enc d[i]!)=pre++((swp d i j).toList.map enc++ex):=by
 rw[List.set_append_right _ _ (by omega),List.set_append_right _ _ (by omega),show pre.length+i-pre.length=i by omega,show pre.length+j-pre.length=j by omega]
 congr 1
 rw[List.set_append_left _ _ (by simpa using hi),List.set_append_left _ _ (by simpa using hj)]
 congr 1
 unfold swp
 rw[Array.toList_setIfInBounds,Array.toList_setIfInBounds,List.map_set,List.map_set]
theorem setCell_lst{w:World}{g i:Nat}{l:List Value}{t:TypeId}{u:Value}(h:w.heap[g]?=some (.cells l.toArray t (0,0))):(w.setCell ⟨g,i,none⟩ u).heap[g]?=some (.cells (l.set i u).toArray t (0,0)):=by
 rw[setCell_at h]
 simp
theorem grownBy_setC(W:World)(g i:Nat)(v:Value):W.grownBy (W.setCell ⟨g,i,none⟩ v) (some g) :=
 ⟨rfl,rfl,rfl,by simp,fun k _ hne=>Below.heap_setCell _ _ _ _ (fun e=>hne (by rw[e]))⟩
noncomputable def siT:TypeInfo:=(Tryz.prog.info? 130).get (by kernel_rfl)
noncomputable def siE:TypeInfo:=(Tryz.prog.info? 131).get (by kernel_rfl)
theorem siK(n:Nat)(h2:2≤n):Lib.swapperK n siE 22=3:=by
 have a:siE.hasPointers=true:=by kernel_rfl
 have b:siE.bytes=8:=by kernel_rfl
 have c:(n == 0)=false:=by simp;omega
 have d:(n == 1)=false:=by simp;omega
 simp[Lib.swapperK,a,b,c,d]
theorem lsw_of{w:World}{gT n cT:Nat}{enc:Nat→Value}{pre ex:List Value}{lt:Nat→Nat→Bool}{g:Nat}{lb:Array Value}(eg:∀args W,(callFunc g args).run Tryz.prog W = .ok (.enter g args) W)(h1:∀x,(enc x).oneCell'=true)
  (hless:∀W d,HS3 w gT n enc pre ex W d→∀i j:Nat,i<n→j<n→Calls Tryz.prog g (#[.int .i64 (i:Int),.int .i64 (j:Int)]++lb) W fun r w'=>r = .returned (.bool (lt d[i]! d[j]!))∧Below W.heap.size W w') :
  LSw (HS3 w gT n enc pre ex) lt n gT g lb 158 #[.slice (some ⟨gT,pre.length,none⟩) n cT,typeHandle Tryz.prog 131] where
 eg:=eg
 less W d h i j hi hj:=(hless W d h i j hi hj).mono (by
  rintro r w' ⟨rfl,hb⟩
  obtain⟨h2,h3⟩:=h.below hb
  exact⟨rfl,h2,h3⟩)
 swap W d h i j hi hj:=by
  have hH:Go.Sort.Holds enc W gT pre.length d:=fun k hk=>by
   exact h.cell (by rw[← h.sz];exact hk)
  have hsw:=swapSwaps_of_literal (P:=Tryz.prog) true 158 (fun args W=>run_callFunc_extern Tryz.func158 (by kernel_rfl) (by kernel_rfl) (by kernel_rfl) (e:=Extern.ReflectliteSwapper.swap true) (by kernel_rfl) args W) 131 siE (by kernel_rfl) (by kernel_rfl) (fun _=>by kernel_rfl) enc h1 gT pre.length n cT W d hH h.sz i j hi hj
  refine⟨_,hsw,?_,?_⟩
  ·refine⟨h.gr.trans ((grownBy_setC _ _ _ _).trans (grownBy_setC _ _ _ _)),?_,by rw[swp_size,h.sz],fun p hp=>by
    rw[swp_get d (show i<d.size by rw[h.sz];exact hi) (show j<d.size by rw[h.sz];exact hj) p]
    split
    ·first|exact h.rg i hi|exact h.rg j hj
    ·split
     ·first|exact h.rg i hi|exact h.rg j hj
     ·exact h.rg p hp⟩
   rw[setCell_lst (setCell_lst h.row),swp_list enc pre ex d (by rw[h.sz];exact hi) (by rw[h.sz];exact hj)]
  ·exact(grownBy_setC _ _ _ _).trans (grownBy_setC _ _ _ _)
 alloc W d o h:=h.alloc o
 size W d h:=h.sz
 low W d h:=h.lt
theorem grownBy_grow(W:World)(os:Array Obj)(row:Option Nat):W.grownBy (grow W os) row:=⟨rfl,rfl,rfl,by simp[grow],fun k hk _=>by unfold grow;simp[Array.getElem?_append,hk]⟩
set_option maxRecDepth 20000 in
set_option maxHeartbeats 2000000 in
theorem slPtr_any{w:World}{gT n cT:Nat}{enc:Nat→Value}{pre ex:List Value}{lt:Nat→Nat→Bool}(hS:SWO lt){g:Nat}{lb:Array Value}(eg:∀args W,(callFunc g args).run Tryz.prog W = .ok (.enter g args) W)(h1:∀x,(enc x).oneCell'=true)
  (hless:∀W d,HS3 w gT n enc pre ex W d→∀i j:Nat,i<n→j<n→Calls Tryz.prog g (#[.int .i64 (i:Int),.int .i64 (j:Int)]++lb) W fun r w'=>r = .returned (.bool (lt d[i]! d[j]!))∧Below W.heap.size W w')
  (hrow:w.heap[gT]?=some (.cells (pre++((List.range n).map enc++ex)).toArray 131 (0,0))) (hn:1≤n) (hs:n≤4000000) :
  Calls Tryz.prog 62 #[.iface 130 (.slice (some ⟨gT,pre.length,none⟩) n cT),.func (.func g) #[] lb] w fun r w'=>r = .returned (.tuple #[])∧∃d',HS3 w gT n enc pre ex w' d'∧Asc lt id 0 n d'∧PermIn 0 n (Array.range n) d':=by
 have h0:HS3 w gT n enc pre ex w (Array.range n):=⟨World.grownBy.refl _ _,by rw[hrow];simp,by simp,fun p hp=>by rw[getElem!_pos _ p (by simpa using hp),Array.getElem_range];exact hp⟩
 by_cases h2:2≤n
 ·have hL:=lsw_of (cT:=cT) eg h1 hless
  have h3:HS3 w gT n enc pre ex (stableWorld Tryz.prog Tryz.sl8_ren 130 (some ⟨gT,pre.length,none⟩) n cT w) (Array.range n):=by
   unfold stableWorld
   exact(h0.alloc _).alloc _
  have hp:=stableF_full n hS hL h3 hs (fun p hp=>by rw[getElem!_pos _ p (by simpa using hp),Array.getElem_range])
  have hB:sliceBound Tryz.prog 131 siE 22 (some ⟨gT,pre.length,none⟩) n cT=#[.slice (some ⟨gT,pre.length,none⟩) n cT,typeHandle Tryz.prog 131]:=by
   unfold sliceBound;rw[if_neg (swapperK_gt _ _ _ h2)]
  have h9:=Any.sort_SliceStable_of_stable (P:=Tryz.prog) Tryz.sl8 130 131 siT siE (by kernel_rfl) (by kernel_rfl) (by kernel_rfl) (by kernel_rfl) 22 (fun _=>by kernel_rfl) (some ⟨gT,pre.length,none⟩) n cT (by omega) 158 (by rw[siK _ h2];kernel_rfl) (.func g) #[] lb w
   (fun w'=>∃d',HS3 w gT n enc pre ex w' d'∧Asc lt id 0 n d'∧PermIn 0 n (Array.range n) d') (by
    rw[hB]
    refine(show Calls Tryz.prog (Tryz.sl8_ren.f 15) _ _ _ from hp).mono ?_
    rintro e w' ⟨rfl,d',q1,-,q2,q3⟩
    exact⟨rfl,d',q1,q2,q3⟩)
  exact h9
 ·have hn1:n=1:=by omega
  subst hn1
  have h9:=Any.sort_SliceStable_tiny (P:=Tryz.prog) Tryz.sl8 130 131 siT siE (by kernel_rfl) (by kernel_rfl) (by kernel_rfl) (by kernel_rfl) 22 (fun _=>by kernel_rfl) (some ⟨gT,pre.length,none⟩) 1 cT (by omega) 157 (by kernel_rfl) (.func g) #[] lb w
  refine(show Calls Tryz.prog 62 _ _ _ from h9).mono ?_
  rintro e w' ⟨rfl,os,rfl⟩
  refine⟨rfl,Array.range 1,⟨grownBy_grow _ _ _,?_,by simp,fun p hp=>by rw[getElem!_pos _ p (by simpa using hp),Array.getElem_range];exact hp⟩,fun p q h3 h4 h5=>by omega,permIn_refl _ _ _⟩
  have hlt:=h0.lt
  unfold grow
  simp only[Array.getElem?_append,hlt,if_true]
  exact h0.row
theorem slPtr_tiny(w:World)(p:Option Addr)(n c:Nat)(hn:n≤1)(g:Nat)(lb:Array Value):Calls Tryz.prog 62 #[.iface 130 (.slice p n c),.func (.func g) #[] lb] w fun r w'=>r = .returned (.tuple #[])∧w.grownBy w' none:=by
 rcases(by omega:n=0∨n=1) with rfl|rfl
 ·have h9:=Any.sort_SliceStable_tiny (P:=Tryz.prog) Tryz.sl8 130 131 siT siE (by kernel_rfl) (by kernel_rfl) (by kernel_rfl) (by kernel_rfl) 22 (fun _=>by kernel_rfl) p 0 c (by omega) 156 (by kernel_rfl) (.func g) #[] lb w
  refine(show Calls Tryz.prog 62 _ _ _ from h9).mono ?_
  rintro e w' ⟨rfl,os,rfl⟩
  exact⟨rfl,grownBy_grow _ _ _⟩
 ·have h9:=Any.sort_SliceStable_tiny (P:=Tryz.prog) Tryz.sl8 130 131 siT siE (by kernel_rfl) (by kernel_rfl) (by kernel_rfl) (by kernel_rfl) 22 (fun _=>by kernel_rfl) p 1 c (by omega) 157 (by kernel_rfl) (.func g) #[] lb w
  refine(show Calls Tryz.prog 62 _ _ _ from h9).mono ?_
  rintro e w' ⟨rfl,os,rfl⟩
  exact⟨rfl,grownBy_grow _ _ _⟩
theorem sortP_any(W:World)(v:Value)(bs:List Nat)(h:PtR W v bs)(ah:Nat→Nat→Bool)(hS:SWO ah)(hT:∀a∈bs,∀b∈bs,a≠b→ah a b=true∨ah b a=true)(hnd:bs.Nodup)(hl:bs.length≤4000000)(g:Nat)(lb:Array Value)(eg:∀args W,(callFunc g args).run Tryz.prog W = .ok (.enter g args) W)
  (hless:∀W' cs,W.grownBy W' v.ownBlock→PtR W' v cs→(∀b∈cs,b∈bs)→∀(i j a b:Nat),cs[i]?=some a→cs[j]?=some b→Calls Tryz.prog g (#[.int .i64 (i:Int),.int .i64 (j:Int)]++lb) W' fun r w'=>r = .returned (.bool (ah a b))∧Below W'.heap.size W' w') :
  Calls Tryz.prog 62 #[.iface 130 v,.func (.func g) #[] lb] W fun r W'=>r = .returned (.tuple #[])∧∃cs,cs.Perm bs∧cs.Pairwise (fun a b=>ah a b=true)∧PtR W' v cs∧W.grownBy W' v.ownBlock:=by
 by_cases hn:bs.length≤1
 ·obtain⟨ad,c,rfl⟩:=h.val
  refine(slPtr_tiny W ad bs.length c hn g lb).mono ?_
  rintro r W' ⟨rfl,hg⟩
  refine⟨rfl,bs,List.Perm.refl _,?_,h.keep (fun q hq=>?_),gb_none hg _⟩
  ·match bs,hn with
   | [],_=>exact List.Pairwise.nil
   | [b],_=>exact List.pairwise_singleton _ _
  ·obtain⟨cur,hc⟩:=h.ty hq
   exact hg.block q (heap_lt hc) (by simp)
 ·rcases h with ⟨-,rfl⟩|⟨gT,o,c,cur,rfl,h1,h2,h3,h4,h5⟩
  ·exact absurd (Nat.zero_le 1) hn
  have hsz:o+bs.length≤cur.size:=by omega
  -- the row,cut in three
  have hcur:cur.toList=cur.toList.take o++(bs.map pvv++cur.toList.drop (o+bs.length)):=by
   refine List.ext_getElem? (fun k=>?_)
   have htl:(cur.toList.take o).length=o:=by rw[List.length_take,Array.length_toList];omega
   by_cases k1:k<o
   ·rw[List.getElem?_append_left (by omega),List.getElem?_take,if_pos k1]
   ·rw[List.getElem?_append_right (by omega),htl]
    by_cases k2:k-o<bs.length
    ·rw[List.getElem?_append_left (by simpa using k2),List.getElem?_map]
     obtain⟨b,hb⟩:∃b,bs[k-o]?=some b:=⟨_,List.getElem?_eq_getElem k2⟩
     have h9:=h5 (k-o) b hb
     rw[show o+(k-o)=k by omega]at h9
     rw[hb,Array.getElem?_toList,h9]
     rfl
    ·rw[List.getElem?_append_right (by simp;omega),List.length_map,List.getElem?_drop]
     congr 1
     omega
  have hpl:(cur.toList.take o).length=o:=by rw[List.length_take,Array.length_toList];omega
  generalize hpre:cur.toList.take o=pre at *
  generalize hex:cur.toList.drop (o+bs.length)=ex at *
  have hexl:ex.length=cur.size-(o+bs.length):=by rw[← hex,List.length_drop,Array.length_toList]
  subst hpl
  have hen:(List.range bs.length).map (fun k=>pvv (bs.getD k 0))=bs.map pvv:=by
   refine List.ext_getElem? (fun k=>?_)
   rw[List.getElem?_map,List.getElem?_map]
   by_cases hk:k<bs.length
   ·rw[List.getElem?_range hk,some_getD (d:=0) hk]
    rfl
   ·rw[List.getElem?_eq_none (by simpa using hk),List.getElem?_eq_none (by simpa using hk)]
    rfl
  have hrow:W.heap[gT]?=some (.cells (pre++((List.range bs.length).map (fun k=>pvv (bs.getD k 0))++ex)).toArray 131 (0,0)):=by
   rw[hen,← hcur]
   simpa using h3
  -- what a row of such numbers is
  have back:∀(W':World) (d:Array Nat),HS3 W gT bs.length (fun k=>pvv (bs.getD k 0)) pre ex W' d→PtR W' (.slice (some ⟨gT,pre.length,none⟩) bs.length c) (d.toList.map (fun k=>bs.getD k 0)):=fun W' d hd=>by
   refine .inr ⟨gT,pre.length,c,_,by rw[List.length_map,show d.toList.length=bs.length from Array.length_toList.trans hd.sz],by rw[List.length_map,Array.length_toList,hd.sz];exact h1,h2,hd.row,?_,fun j b hj=>?_⟩
   ·simp only[List.size_toArray,List.length_append,List.length_map,Array.length_toList,hd.sz]
    omega
   ·rw[List.getElem?_toArray,List.getElem?_append_right (by omega),show pre.length+j-pre.length=j by omega]
    rw[List.getElem?_map,Option.map_eq_some_iff]at hj
    obtain⟨k,hk,rfl⟩:=hj
    rw[List.getElem?_append_left (by simpa using (List.getElem?_eq_some_iff.1 hk).1),List.getElem?_map,hk]
    rfl
  refine Calls.mono (slPtr_any (w:=W) (gT:=gT) (n:=bs.length) (cT:=c) (enc:=fun k=>pvv (bs.getD k 0)) (pre:=pre) (ex:=ex) (lt:=fun i j=>ah (bs.getD i 0) (bs.getD j 0)) ⟨fun x=>hS.irrefl _,fun x y z=>hS.trans _ _ _,fun x y z=>hS.ntrans _ _ _⟩ eg (fun _=>rfl) (fun W' d hd i j hi hj=>?_) hrow (by omega) hl) ?_
  ·have hcs:=back W' d hd
   have hat:∀k,k<bs.length→(d.toList.map (fun k=>bs.getD k 0))[k]?=some (bs.getD d[k]! 0):=fun k hk=>by
    have hk':k<d.size:=by rw[hd.sz];exact hk
    rw[List.getElem?_map,Array.getElem?_toList,Array.getElem?_eq_getElem hk',getElem!_pos d k hk']
    rfl
   exact hless W' _ hd.gr hcs (fun b hb=>by
    obtain⟨k,hk⟩:=List.getElem?_of_mem hb
    have hkl:k<bs.length:=by
     have:=(List.getElem?_eq_some_iff.1 hk).1
     rwa[List.length_map,Array.length_toList,hd.sz]at this
    rw[hat k hkl]at hk
    rw[← Option.some.inj hk]
    exact List.mem_of_getElem? (some_getD (d:=0) (hd.rg k hkl))) i j _ _ (hat i hi) (hat j hj)
  ·rintro r W' ⟨rfl,d',q1,q2,q3⟩
   have hz:d'.size=bs.length:=q1.sz
   have hp:d'.toList.Perm (List.range bs.length):=by
    have h9:=q3.2.2
    rw[show d'.extract 0 bs.length=d' by rw[← hz];exact Array.extract_size,show(Array.range bs.length).extract 0 bs.length=Array.range bs.length by simp]at h9
    simpa using h9
   have hmap:(List.range bs.length).map (fun k=>bs.getD k 0)=bs:=by
    refine List.ext_getElem? (fun k=>?_)
    rw[List.getElem?_map]
    by_cases hk:k<bs.length
    ·rw[List.getElem?_range hk,some_getD (d:=0) hk]
     rfl
    ·rw[List.getElem?_eq_none (by simpa using hk),List.getElem?_eq_none (by simpa using hk)]
     rfl
   have hdn:d'.toList.Nodup:=hp.nodup_iff.2 List.nodup_range
   refine⟨rfl,d'.toList.map (fun k=>bs.getD k 0),by have h8:=hp.map (fun k=>bs.getD k 0);rwa[hmap]at h8,?_,back W' d' q1,q1.gr⟩
   rw[List.pairwise_iff_getElem]
   intro a b ha hb hab
   rw[List.length_map,Array.length_toList]at ha hb
   have h9:=q2 a b (Nat.zero_le _) hab (by omega)
   rw[getElem!_pos d' a ha,getElem!_pos d' b hb]at h9
   simp only[List.getElem_map,Array.getElem_toList]
   have ha2:d'[a]<bs.length:=by have:=q1.rg a (by omega);rwa[getElem!_pos d' a ha]at this
   have hb2:d'[b]<bs.length:=by have:=q1.rg b (by omega);rwa[getElem!_pos d' b hb]at this
   rcases h9 with h9|⟨h9,h10⟩
   ·exact h9
   ·rcases hT (bs.getD d'[a] 0) (List.mem_of_getElem? (some_getD (d:=0) ha2)) (bs.getD d'[b] 0) (List.mem_of_getElem? (some_getD (d:=0) hb2)) (fun e=>by
     have e1:=some_getD (d:=0) ha2
     have e2:=some_getD (d:=0) hb2
     rw[e]at e1
     have e3:=nodup_at hnd e1 e2
     unfold id at h10
     omega) with g|g
    ·exact g
    ·have h8:ah (bs.getD d'[b] 0) (bs.getD d'[a] 0)=false:=h9
     rw[g]at h8;cases h8
end Go.Proofs.YtccoobcggbbcialGreatDoor.Stab
namespace Go.Proofs.YtccoobcggbbcialGreatDoor
open Go.ChangeShapes Go.WideShapes Go.ChangeAt Go.RowKit
namespace Keep
section
variable {l:List Pa} {tk:List Int} {cs:List Co} {Cm:Nat→Prop} {now:Int} {F:Nat→Bool} {z:Int} {s s':Sc} {jobs mail:List Th} {sent:Option Th}
theorem DJ.lf(hI:Iv l tk cs Cm now s)(hJ:DJ l s jobs){x:Th}(hx:x∈jobs):1≤x.lf∧x.lf≤wkF l tk x.pt x.cm∧x.cm<cs.length:=by
 obtain⟨h1,h2⟩:=(hJ.mem x).1 hx
 obtain⟨n,g1,g2,g3,g4⟩:=hI.j _ h1 _ (fnd_some h2).1
 dsimp only at g1 g3 g4
 have:x.cm=n:=by omega
 subst this
 exact⟨g3,g4,(hI.rl _ _ h1 (by unfold rlJ;rw[h2];rfl)).1.1⟩
theorem dn_iff(hI:Iv l tk cs Cm now s)(hF0:∀k,F k=true→k<l.length∧J s k≠[])(hQ:QZ l s now)(hJ:DJ l s jobs){x:Th}(hx:x∈jobs):dnF (ranX s F) x=true↔rD s F x.pt=true∧x.cm=runC (J s x.pt):=by
 have hl:=(hJ.lf hI hx).1
 unfold dnF ranX rD
 simp only[Bool.and_eq_true,decide_eq_true_eq]
 constructor
 ·rintro⟨⟨h1,h2⟩,h3⟩
  obtain⟨a1,a2⟩:=hF0 _ h1
  obtain⟨y,y1,y2,y3,-,y5,-⟩:=head_th hI hQ hJ a1 a2
  have:x=y:=hJ.one hx y1 ⟨y2.symm,by rw[y3];exact h2⟩
  subst this
  exact⟨⟨h1,y5.2 (by omega)⟩,h2⟩
 ·rintro⟨⟨h1,h3⟩,h2⟩
  obtain⟨a1,a2⟩:=hF0 _ h1
  obtain⟨y,y1,y2,y3,-,y5,-⟩:=head_th hI hQ hJ a1 a2
  have:x=y:=hJ.one hx y1 ⟨y2.symm,by rw[y3];exact h2⟩
  subst this
  have:=y5.1 h3
  exact⟨⟨h1,h2⟩,by omega⟩
def SentZ(l:List Pa)(s:Sc)(z:Int)(sent:Option Th):Prop:=(sent=none∧z=-1)∨∃m,sent=some m∧z=(m.pt:Int)∧m.pt<l.length∧m.cm=runC (M s m.pt)∧(runD (M s m.pt)=true↔m.lf=1)∧1≤m.lf∧fnd (M s m.pt) m.cm=some ⟨m.cm,m.si,m.lf⟩∧1≤se l m.pt
def msgB(l:List Pa)(tk:List Int)(now:Int):Option Th→List Th
 | none=>[]
 | some m=>if m.lf=1 then [⟨m.pt,m.cm,now,wkF l tk m.pt m.cm⟩] else []
theorem msgB_mem(hz:SentZ l s z sent){x:Th}:x∈msgB l tk now sent↔x.pt<l.length∧(z=(x.pt:Int)∧runD (M s x.pt)=true∧x.cm=runC (M s x.pt))∧x.si=now∧x.lf=wkF l tk x.pt x.cm:=by
 rcases hz with ⟨rfl,rfl⟩|⟨m,rfl,rfl,h1,h2,h3,-⟩
 ·constructor
  ·intro h;cases h
  ·rintro⟨-,⟨h,-⟩,-⟩;omega
 ·rw[show msgB l tk now (some m)=if m.lf=1 then [⟨m.pt,m.cm,now,wkF l tk m.pt m.cm⟩] else [] from rfl]
  by_cases hl:m.lf=1
  ·rw[if_pos hl,List.mem_singleton]
   constructor
   ·rintro rfl
    exact⟨h1,⟨rfl,h3.2 hl,h2⟩,rfl,rfl⟩
   ·rintro⟨-,⟨g1,-,g2⟩,g3,g4⟩
    obtain⟨a,b,c,d⟩:=x
    dsimp only at *
    have:m.pt=a:=by omega
    subst this
    rw[← h2]at g2
    subst g2 g3 g4
    rfl
  ·rw[if_neg hl]
   constructor
   ·intro h;cases h
   ·rintro⟨-,⟨g1,g2,-⟩,-⟩
    have:m.pt=x.pt:=by omega
    rw[← this]at g2
    exact absurd (h3.1 g2) hl
theorem bg_mem(hT:Tc l tk cs Cm now F z s s')(hQ:QZ l s now)(hJ:DJ l s jobs){x:Th}:x∈(jobs.filter (dnF (ranX s F))).flatMap (fun j=>hangB l tk j.pt j.cm (now+1) l.length)↔x.pt<l.length∧(fr l x.pt≠-1∧se l x.pt=0∧rD s F (fr l x.pt).toNat=true∧x.cm=runC (J s (fr l x.pt).toNat))∧x.si=now+1∧x.lf=wkF l tk x.pt x.cm:=by
 rw[List.mem_flatMap]
 constructor
 ·rintro⟨j,hj,hx⟩
  obtain⟨j1,j2⟩:=List.mem_filter.1 hj
  obtain⟨g1,g2⟩:=(dn_iff hT.iv hT.hF hQ hJ j1).1 j2
  obtain⟨h1,h2,h3,h4,h5,h6⟩:=(hangB_mem _).1 hx
  have e:(fr l x.pt).toNat=j.pt:=by omega
  rw[e]
  exact⟨h1,⟨by omega,h3,g1,by rw[h4];exact g2⟩,h5,by rw[h6,h4]⟩
 ·rintro⟨h1,⟨h2,h3,h4,h5⟩,h6,h7⟩
  obtain⟨f,e1,e2,-⟩:=hT.from h1 h2
  rw[e2]at h4 h5
  obtain⟨g1,g2,-⟩:=hT.isD h4
  obtain⟨y,y1,y2,y3,-⟩:=head_th hT.iv hQ hJ g1 (hT.hF f g2).2
  refine⟨y,List.mem_filter.2 ⟨y1,(dn_iff hT.iv hT.hF hQ hJ y1).2 ⟨by rw[y2];exact h4,by rw[y2];exact y3⟩⟩,(hangB_mem _).2 ⟨h1,by rw[y2];exact e1,h3,by rw[y3];exact h5,h6,?_⟩⟩
  rw[h7,y3,h5]
theorem hm_mem(hT:Tc l tk cs Cm now F z s s')(hQ:QZ l s now)(hJ:DJ l s jobs){x:Th}:x∈(jobs.filter (dnF (ranX s F))).flatMap (fun j=>hangM l j.pt j.cm (now+1) l.length)↔x.pt<l.length∧nwM l F s x.pt x.cm∧x.si=now+1∧x.lf=se l x.pt:=by
 rw[List.mem_flatMap]
 unfold nwM
 constructor
 ·rintro⟨j,hj,hx⟩
  obtain⟨j1,j2⟩:=List.mem_filter.1 hj
  obtain⟨g1,g2⟩:=(dn_iff hT.iv hT.hF hQ hJ j1).1 j2
  obtain⟨h1,h2,h3,h4,h5,h6⟩:=(hangM_mem _).1 hx
  have e:(fr l x.pt).toNat=j.pt:=by omega
  rw[e]
  exact⟨h1,⟨by omega,by omega,g1,by rw[h4];exact g2⟩,h5,h6⟩
 ·rintro⟨h1,⟨h2,h3,h4,h5⟩,h6,h7⟩
  obtain⟨f,e1,e2,-⟩:=hT.from h1 h2
  rw[e2]at h4 h5
  obtain⟨g1,g2,-⟩:=hT.isD h4
  obtain⟨y,y1,y2,y3,-⟩:=head_th hT.iv hQ hJ g1 (hT.hF f g2).2
  have hse:=Iv.se0 hT.ok h1
  exact⟨y,List.mem_filter.2 ⟨y1,(dn_iff hT.iv hT.hF hQ hJ y1).2 ⟨by rw[y2];exact h4,by rw[y2];exact y3⟩⟩,(hangM_mem _).2 ⟨h1,by rw[y2];exact e1,by omega,by rw[y3];exact h5,h6,h7⟩⟩
theorem st_mem(hT:Tc l tk cs Cm now F z s s')(hQ:QZ l s now)(hJ:DJ l s jobs){x:Th}:x∈jobs.filterMap (stF (ranX s F))↔x.pt<l.length∧(if F x.pt=true∧x.cm=runC (J s x.pt) then (if rD s F x.pt=true then none else (fnd (J s x.pt) x.cm).map (fun p=>{ p with lf:=p.lf-1 })) else fnd (J s x.pt) x.cm)=some ⟨x.cm,x.si,x.lf⟩:=by
 rw[List.mem_filterMap]
 have hran:∀y:Th,ranX s F y=true↔F y.pt=true∧y.cm=runC (J s y.pt):=fun y=>by
  unfold ranX
  rw[Bool.and_eq_true,decide_eq_true_iff]
 constructor
 ·rintro⟨y,hy,hf⟩
  obtain⟨g1,g2⟩:=(hJ.mem y).1 hy
  unfold stF at hf
  by_cases hr:ranX s F y=true
  ·rw[if_pos hr]at hf
   by_cases hl:1<y.lf
   ·rw[if_pos hl]at hf
    have e:=Option.some.inj hf
    subst e
    have hnd:¬ rD s F y.pt=true:=fun h=>by
     have:=(dn_iff hT.iv hT.hF hQ hJ hy).2 ⟨h,((hran y).1 hr).2⟩
     unfold dnF at this
     simp only[Bool.and_eq_true,decide_eq_true_eq]at this
     exact this.2 hl
    refine⟨g1,?_⟩
    dsimp only
    rw[if_pos ((hran y).1 hr),if_neg hnd,g2]
    rfl
   ·rw[if_neg hl]at hf;cases hf
  ·rw[if_neg hr]at hf
   have e:=Option.some.inj hf
   subst e
   exact⟨g1,by rw[if_neg (fun h=>hr ((hran y).2 h))];exact g2⟩
 ·rintro⟨h1,h2⟩
  by_cases hr:F x.pt=true∧x.cm=runC (J s x.pt)
  ·rw[if_pos hr]at h2
   by_cases hd:rD s F x.pt=true
   ·rw[if_pos hd]at h2;cases h2
   ·rw[if_neg hd]at h2
    obtain⟨p,p1,p2⟩:=Option.map_eq_some_iff.1 h2
    simp only[Pc.mk.injEq]at p2
    have hm:(⟨x.pt,x.cm,x.si,x.lf+1⟩:Th)∈jobs:=(hJ.mem _).2 ⟨h1,by
     dsimp only
     rw[p1]
     obtain⟨a,b,c⟩:=p
     dsimp only at p2 ⊢
     rw[p2.1,p2.2.1,show c=x.lf+1 by omega]⟩
    have hl:=(hJ.lf hT.iv hm).1
    dsimp only at hl
    have hnl:x.lf+1≠1:=fun e=>by
     have:dnF (ranX s F) ⟨x.pt,x.cm,x.si,x.lf+1⟩=true:=by
      unfold dnF
      rw[Bool.and_eq_true,decide_eq_true_iff]
      exact⟨(hran _).2 hr,by dsimp only;omega⟩
     exact hd ((dn_iff hT.iv hT.hF hQ hJ hm).1 this).1
    refine⟨_,hm,?_⟩
    unfold stF
    rw[if_pos ((hran ⟨x.pt,x.cm,x.si,x.lf+1⟩).2 hr),if_pos (by dsimp only;omega)]
    obtain⟨a,b,c,d⟩:=x
    dsimp only
    rw[show d+1-1=d by omega]
  ·rw[if_neg hr]at h2
   refine⟨x,(hJ.mem x).2 ⟨h1,h2⟩,?_⟩
   unfold stF
   rw[if_neg (fun h=>hr ((hran x).1 h))]
theorem nw_none(hT:Tc l tk cs Cm now F z s s'){k n:Nat}(hk:k<l.length)(hn:nwJ l F z s k n):fnd (J s k) n=none:=(rlJ_no.1 (hT.isNew hk hn).1).1
theorem tick_DJ(hT:Tc l tk cs Cm now F z s s')(hQ:QZ l s now)(hJ:DJ l s jobs)(hz:SentZ l s z sent) :
  DJ l s' (jobs.filterMap (stF (ranX s F))++((jobs.filter (dnF (ranX s F))).flatMap (fun j=>hangB l tk j.pt j.cm (now+1) l.length)++msgB l tk (now+1) sent)):=by
 have hst:=fun {x:Th}=>st_mem (x:=x) hT hQ hJ
 have hbg:=fun {x:Th}=>bg_mem (x:=x) hT hQ hJ
 have hmg:=fun {x:Th}=>msgB_mem (tk:=tk) (now:=now+1) (x:=x) hz
 have hsome:∀x:Th,x∈jobs.filterMap (stF (ranX s F))→(fnd (J s x.pt) x.cm).isSome=true:=fun x hx=>by
  obtain⟨-,h⟩:=hst.1 hx
  split at h
  ·split at h
   ·cases h
   ·obtain⟨p,p1,-⟩:=Option.map_eq_some_iff.1 h
    rw[p1];rfl
  ·rw[h];rfl
 refine⟨?_,fun x=>?_⟩
 ·rw[List.pairwise_append]
  refine⟨?_,?_,fun x hx y hy hk=>?_⟩
  ·refine List.Pairwise.filterMap _ (fun a a' h b hb b' hb' g=>h ?_) hJ.nd
   have key:∀ {a b:Th},stF (ranX s F) a=some b→Ke a b:=fun {a b} h=>by
    unfold stF at h
    split at h
    ·split at h
     ·rw[← Option.some.inj h];exact⟨rfl,rfl⟩
     ·cases h
    ·rw[Option.some.inj h];exact⟨rfl,rfl⟩
   have k1:=key (Option.mem_def.1 hb)
   have k2:=key (Option.mem_def.1 hb')
   exact⟨k1.1.trans (g.1.trans k2.1.symm),k1.2.trans (g.2.trans k2.2.symm)⟩
  ·rw[List.pairwise_append]
   refine⟨?_,?_,fun x hx y hy hk=>?_⟩
   ·rw[List.pairwise_flatMap]
    refine⟨fun j _=>hangB_pw _ _ _ _ _ _,(hJ.nd.filter _).imp (fun {a b} h x hx y hy hk=>h ?_)⟩
    obtain⟨-,g1,-,g2,-⟩:=(hangB_mem _).1 hx
    obtain⟨-,k1,-,k2,-⟩:=(hangB_mem _).1 hy
    rw[hk.1,k1]at g1
    exact⟨by omega,by rw[← g2,← k2];exact hk.2⟩
   ·unfold msgB
    cases sent with
    | none=>exact List.Pairwise.nil
    | some m=>dsimp only;split<;>simp
   ·obtain⟨-,⟨-,g1,-⟩,-⟩:=hbg.1 hx
    obtain⟨-,⟨g2,-,-⟩,-⟩:=hmg.1 hy
    rcases hz with ⟨-,h⟩|⟨m,-,h1,-,-,-,-,-,h2⟩
    ·omega
    ·have:m.pt=x.pt:=by rw[hk.1];omega
     rw[this]at h2
     omega
  ·have h1:=hsome x hx
   rw[hk.1,hk.2]at h1
   rcases List.mem_append.1 hy with hy|hy
   ·obtain⟨g0,g1,-⟩:=hbg.1 hy
    rw[nw_none hT g0 (.inl g1)]at h1;cases h1
   ·obtain⟨g0,g1,-⟩:=hmg.1 hy
    rw[nw_none hT g0 (.inr g1)]at h1;cases h1
 ·rw[List.mem_append,List.mem_append,hst,hbg,hmg]
  by_cases hk:x.pt<l.length
  rotate_left 1
  ·exact⟨fun h=>by rcases h with h|h|h<;>exact absurd h.1 hk,fun h=>absurd h.1 hk⟩
  rw[hT.fndJ hk x.cm]
  by_cases hn:nwJ l F z s x.pt x.cm
  ·have h0:=nw_none hT hk hn
   rw[if_pos hn,h0]
   have hA:(if F x.pt=true∧x.cm=runC (J s x.pt) then (if rD s F x.pt=true then none else (none:Option Pc).map (fun p=>{ p with lf:=p.lf-1 })) else none)=none:=by
    split
    ·split<;>rfl
    ·rfl
   rw[hA,Option.none_or]
   constructor
   ·rintro(⟨-,h⟩|⟨-,-,h1,h2⟩|⟨-,-,h1,h2⟩)
    ·cases h
    ·exact⟨hk,by rw[h1,h2]⟩
    ·exact⟨hk,by rw[h1,h2]⟩
   ·rintro⟨-,h⟩
    have h1:=Option.some.inj h
    simp only[Pc.mk.injEq]at h1
    rcases hn with g|g
    ·exact .inr (.inl ⟨hk,g,h1.2.1.symm,h1.2.2.symm⟩)
    ·exact .inr (.inr ⟨hk,g,h1.2.1.symm,h1.2.2.symm⟩)
  ·rw[if_neg hn,Option.or_none]
   constructor
   ·rintro(h|⟨-,g,-⟩|⟨-,g,-⟩)
    ·exact h
    ·exact absurd (.inl g) hn
    ·exact absurd (.inr g) hn
   ·exact .inl
end
end Keep
end Go.Proofs.YtccoobcggbbcialGreatDoor
