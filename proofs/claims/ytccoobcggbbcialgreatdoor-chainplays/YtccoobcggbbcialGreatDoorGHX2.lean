import Derived.Test.YtccoobcggbbcialGreatDoorGHW2
import Derived.Test.YtccoobcggbbcialGreatDoorGHV3
namespace Go.Proofs.YtccoobcggbbcialGreatDoor
open Go.ChangeShapes Go.WideShapes Go.ChangeAt Go.RowKit
set_option maxRecDepth 20000 in
set_option maxHeartbeats 4000000 in
theorem sent_any(A:Ad)(W:World)(jv mv ev:List Value)(s:Sc)(h:SW A W jv mv ev s)(hm:s.mail.length=A.l.length)(h8:A.l.length≤8):Calls Tryz.prog 101 #[.pointer (some ⟨A.gs,0,none⟩)] W fun r w'=>r = .returned (.int .i64 (sentF s))∧SW A w' jv mv ev { s with un:=sentF s }:=by
 obtain⟨cs,cf,lgs⟩:=cells_of (l:=[_,_,_,_,_,_]) h.sc
 have c3:=cs 3 _ rfl
 have c4:=cs 4 _ rfl
 have f4:=cf 4
 have HS:Hid (SW A W jv mv ev s):=h
 have HI:=indexM_any A W jv mv ev s h hm h8
 obtain⟨z,hz⟩:∃z,sentF s=z:=⟨_,rfl⟩
 have HZ:Hid (sentF s=z):=hz
 rw[hz]
 clear cs cf h hz
 by_cases hu:s.un=-1
 ·have hzf:firstM s.mail 0=z:=by rw[← HZ.out];unfold sentF;rw[if_pos hu]
  rw[hzf]at HI
  have HN:Hid (SW A (W.setCell ⟨A.gs,4,none⟩ (.int .i64 z)) jv mv ev { s with un:=z }):=HS.out.setUn z
  rw[hu]at c4
  clear hzf hu
  go_enter Tryz.func101,Tryz.ntmps101
  go_wp2_with (go_at_call 153;refine HI.mono ?_;rintro r w5 ⟨rfl,hw5⟩;have hw6:=hw5.symm;subst hw6;clear HI)
  go_ret
  exact⟨rfl,HN.out⟩
 ·have hub:(s.un == -1)=false:=by simpa using hu
  have hzu:z=s.un:=by rw[← HZ.out];unfold sentF;rw[if_neg hu]
  subst hzu
  have HN:Hid (SW A W jv mv ev { s with un:=s.un }):=HS.out
  clear hu HI
  go_enter Tryz.func101,Tryz.ntmps101
  go_wp2_with fail
  go_ret
  exact⟨rfl,HN.out⟩
theorem firsts_ends{w:World}{g:Nat}{a b c d:Value}{ac:Act}(h:w.heap[g]?=some (.cells #[a,b,c,d] 105 (0,0)))(h3:ac.tmps[2]?.getD undef = .pointer (some ⟨g,0,none⟩)) :
  (results Tryz.f100 ac.tmps).run Tryz.prog w = .ok (.agg #[a,b,c,d]) w:=by
 obtain⟨c1,f1,l1⟩:=cells_of (l:=[_,_,_,_]) h
 have c10:=c1 0 _ rfl
 have c11:=c1 1 _ rfl
 have c12:=c1 2 _ rfl
 have c13:=c1 3 _ rfl
 simp[results,Tryz.results100,go_sem,h3,c10,c11,c12,c13]
structure F4 (W0 W:World) (g:Nat) (fs:List Int):Prop where
 bel:Below W0.heap.size W0 W
 res:W.heap[W0.heap.size]?=some (.cells #[.int .i64 0,.int .i64 0,.int .i64 0,.int .i64 0] 105 (0,0))
 row:W.heap[g]?=some (.cells (fs.map (Value.int .i64)).toArray 105 (0,0))
 ne:W0.heap.size<g
theorem F4.grow{W0 W W':World}{g:Nat}{fs:List Int}(h:F4 W0 W g fs)(hb:Below W.heap.size W W'):F4 W0 W' g fs:=⟨below_seq h.bel hb,(hb.block _ (heap_lt h.res)).trans h.res,(hb.block _ (heap_lt h.row)).trans h.row,h.ne⟩
theorem F4.set{W0 W:World}{g:Nat}{fs:List Int}(h:F4 W0 W g fs)(i:Nat)(z:Int):F4 W0 (W.setCell ⟨g,i,none⟩ (.int .i64 z)) g (fs.set i z):=by
 have:=h.ne
 exact⟨h.bel.setCell (show W0.heap.size≤g by omega) _,by rw[Below.heap_setCell _ _ _ _ (show W0.heap.size≠g by omega)];exact h.res,by rw[setCell_list h.row,List.map_set],h.ne⟩
theorem rep_set{k:Nat}(hk:k<4):(List.replicate k (-1:Int)++List.replicate (4-k) 0).set k (-1)=List.replicate (k+1) (-1)++List.replicate (4-(k+1)) 0:=by
 rcases(by omega:k=0∨k=1∨k=2∨k=3) with rfl|rfl|rfl|rfl<;>rfl
theorem rep_get{k:Nat}(hk:k<4):(List.replicate k (-1:Int)++List.replicate (4-k) 0)[k]?=some 0:=by
 rcases(by omega:k=0∨k=1∨k=2∨k=3) with rfl|rfl|rfl|rfl<;>rfl
def FirstsPost(A:Ad)(s:Sc)(W:World)(r:Ending)(w':World):Prop:=∃f0 f1 f2 f3,firstsTo A.l s.jobs A.l.length=[f0,f1,f2,f3]∧r = .returned (.agg #[.int .i64 f0,.int .i64 f1,.int .i64 f2,.int .i64 f3])∧Below W.heap.size W w'
set_option maxRecDepth 20000 in
set_option maxHeartbeats 8000000 in
theorem firsts_any(A:Ad)(W:World)(jv mv ev:List Value)(s:Sc)(hI:Inp A)(h:SW A W jv mv ev s)(hj:s.jobs.length=A.l.length):Calls Tryz.prog 100 #[.pointer (some ⟨A.gs,0,none⟩)] W (FirstsPost A s W):=by
 have HS:Hid (SW A W jv mv ev s):=h
 have HI:Hid (Inp A):=hI
 have HJ:Hid (s.jobs.length=A.l.length):=hj
 have h8:=hI.ok.most
 obtain⟨ad1,cl,hpv,-,hcap,hrow⟩:=hI.pr
 have h1:=hI.ok.one
 rcases hrow with h9|⟨b,o,rfl,hrow⟩
 ·rw[h9]at h1;simp at h1
 have HR:Hid (∀q u,(A.l.flatMap Pa.vals)[q]?=some u→A.w.cell? ⟨b,o+q,none⟩=some u):=hrow
 have HPV:Hid (A.pv = .slice (some ⟨b,o,none⟩) A.l.length cl):=hpv
 have HF0:Hid (F4 W ((W.alloc (.cells #[.int .i64 0,.int .i64 0,.int .i64 0,.int .i64 0] 105)).alloc (.cells #[.int .i64 0,.int .i64 0,.int .i64 0,.int .i64 0] 105)) (W.heap.size+1) (List.replicate 0 (-1)++List.replicate (4-0) 0)):=⟨below_seq (below_new _ _) (below_new _ _),by rw[Below.heap_alloc _ _ _ (by simp)];exact heap_alloc_new _ _,by have:=heap_alloc_new (W.alloc (.cells #[.int .i64 0,.int .i64 0,.int .i64 0,.int .i64 0] 105)) (.cells #[.int .i64 0,.int .i64 0,.int .i64 0,.int .i64 0] 105);simpa using this,Nat.lt_succ_self _⟩
 clear h hI hj hpv hrow
 go_enter Tryz.func100,Tryz.ntmps100
 go_upto_region 2 with fail
 generalize W.heap.size+1=g3 at *
 generalize (W.alloc (.cells #[.int .i64 0,.int .i64 0,.int .i64 0,.int .i64 0] 105)).alloc (.cells #[.int .i64 0,.int .i64 0,.int .i64 0,.int .i64 0] 105)=w2 at *
 go_wp2_with fail
 go_loopw [8] (fun iv wr=>∃k:Nat,k≤4∧iv = .int .i64 (k:Int)∧F4 W wr g3 (List.replicate k (-1)++List.replicate (4-k) 0)) (fun iv _=>4-(intOf iv).toNat)
 case atStart=>exact⟨0,by omega,rfl,HF0.out⟩
 case round =>
  obtain⟨k,hk,rfl,hf⟩:=hrel
  have HF:Hid (F4 W wr g3 (List.replicate k (-1)++List.replicate (4-k) 0)):=hf
  clear HF0 hf
  by_cases hk4:k<4
  ·have hki:(k:Int)<4:=by omega
   have hki0:(0:Int)≤(k:Int):=by omega
   obtain⟨cs,cf,lg⟩:=cells_of HF.out.row
   have ck:=cs k (.int .i64 0) (by rw[List.getElem?_map,rep_get hk4];rfl)
   have fk:=cf k
   have HN:Hid (F4 W (wr.setCell ⟨g3,k,none⟩ (.int .i64 (-1))) g3 (List.replicate (k+1) (-1)++List.replicate (4-(k+1)) 0)):=by
    have h9:=HF.out.set k (-1)
    rw[rep_set hk4]at h9
    exact h9
   clear cs cf
   go_wp2_with fail
   exact⟨⟨k+1,by omega,by simp,HN.out⟩,by simp[intOf];omega⟩
  have hke:k=4:=by omega
  subst hke
  rw[show((4:Nat):Int)=(4:Int) from rfl]
  have HF1:Hid (F4 W wr g3 (firstsTo A.l s.jobs 0)):=HF.out
  have HS1:Hid (SW A wr jv mv ev s):=HS.out.grow HF.out.bel
  have cj:=HS1.out.cJ0
  have lgs:=heap_lt HS1.out.sc
  clear HF
  go_wp2_with fail
  clear cj lgs
  go_loopw [19] (fun iv wr2=>∃k:Nat,k≤A.l.length∧iv = .int .i64 (k:Int)∧F4 W wr2 g3 (firstsTo A.l s.jobs k)) (fun iv _=>A.l.length-(intOf iv).toNat)
  case atStart=>exact⟨0,Nat.zero_le _,rfl,HF1.out⟩
  case round =>
   obtain⟨k,hk,rfl,hf⟩:=hrel
   generalize wr=wR at *
   have HF:Hid (F4 W wR g3 (firstsTo A.l s.jobs k)):=hf
   clear HF1 HS1 hf
   by_cases hkl:k<A.l.length
   rotate_left 1
   ·have hke:k=A.l.length:=by omega
    subst hke
    have hki:¬ ((A.l.length:Nat):Int)<(A.l.length:Int):=by omega
    obtain⟨f0,f1,f2,f3,hfs⟩:∃f0 f1 f2 f3,firstsTo A.l s.jobs A.l.length=[f0,f1,f2,f3]:=by
     have h9:=firstsTo_len A.l s.jobs A.l.length
     match firstsTo A.l s.jobs A.l.length,h9 with
     | [a,b,c,d],_=>exact⟨a,b,c,d,rfl⟩
    have HFS:Hid (firstsTo A.l s.jobs A.l.length=[f0,f1,f2,f3]):=hfs
    have hF:=HF.out
    rw[hfs]at hF
    have HG:Hid (F4 W wR g3 [f0,f1,f2,f3]):=hF
    obtain⟨cs,-,lg⟩:=cells_of (l:=[_,_,_,_]) hF.row
    have c0:=cs 0 _ rfl
    have c1:=cs 1 _ rfl
    have c2:=cs 2 _ rfl
    have c3:=cs 3 _ rfl
    obtain⟨rs,rf,rl⟩:=cells_of (l:=[_,_,_,_]) hF.res
    have r0:=rs 0 _ rfl
    have r1:=rs 1 _ rfl
    have r2:=rs 2 _ rfl
    have r3:=rs 3 _ rfl
    have e0:=rf 0
    have e1:=rf 1
    have e2:=rf 2
    have e3:=rf 3
    clear cs rs rf hF hfs
    go_wp2_with fail
    refine bodyPost_ret (firsts_ends (g:=W.heap.size) (a:=.int .i64 f0) (b:=.int .i64 f1) (c:=.int .i64 f2) (d:=.int .i64 f3) ?_ rfl) rfl ?_
    ·rw[setCell_at (setCell_at (setCell_at (setCell_at HG.out.res)))]
     rfl
    ·exact⟨f0,f1,f2,f3,HFS.out,rfl,(((HG.out.bel.setCell (Nat.le_refl _) _).setCell (Nat.le_refl _) _).setCell (Nat.le_refl _) _).setCell (Nat.le_refl _) _⟩
   have hS:=HS.out.grow HF.out.bel
   have HSR:Hid (SW A wR jv mv ev s):=hS
   obtain⟨v,hv⟩:∃v,jv[k]?=some v:=⟨_,List.getElem?_eq_getElem (by rw[hS.lj];exact hkl)⟩
   obtain⟨q,hq⟩:∃q,s.jobs.getD k []=q:=⟨_,rfl⟩
   have hln:=hS.ljs k v hv
   rw[hq]at hln
   obtain⟨ad0,c0,rfl⟩:=hln.val
   obtain⟨x,hx⟩:∃x,A.l[k]?=some x:=⟨_,List.getElem?_eq_getElem hkl⟩
   obtain⟨y0,-⟩:=pa7_at (fun q u hq=>below_cell hS.bel (HR.out q u hq)) hx
   have hco:=(HI.out.ok.at_ k x hx).co
   obtain⟨cn,hcn⟩:∃cn:Nat,x.co=(cn:Int):=⟨x.co.toNat,by omega⟩
   rw[hcn]at y0
   have hcn4:cn<4:=by omega
   obtain⟨fv,hfv⟩:∃fv,(firstsTo A.l s.jobs k)[cn]?=some fv:=⟨_,List.getElem?_eq_getElem (by rw[firstsTo_len];exact hcn4)⟩
   have HST:Hid (firstsTo A.l s.jobs (k+1)=if q≠[]∧(fv=-1∨aheadQ A.l s.jobs k fv.toNat=true) then (firstsTo A.l s.jobs k).set cn (k:Int) else firstsTo A.l s.jobs k):=by
    show _=_
    rw[show firstsTo A.l s.jobs (k+1)=stepFirst A.l s.jobs (firstsTo A.l s.jobs k) k from rfl]
    unfold stepFirst
    rw[getD_some hx,hcn,Int.toNat_natCast,getD_some hfv,hq]
   have hfa:=firstsTo_at k cn fv hfv
   obtain⟨cs,cf,lg3⟩:=cells_of HF.out.row
   have cc:=cs cn _ (by rw[List.getElem?_map,hfv];rfl)
   have fc:=cf cn
   obtain⟨k2,kJ,-⟩:=hS.cJ hv
   have k0:=hS.cP HPV.out
   have lgs:=heap_lt hS.sc
   have lgJ:=heap_lt hS.jr
   have lb:=World.block_lt_of_cell? _ _ y0
   have HQ:Hid (s.jobs.getD k []=q):=hq
   have hki:(k:Int)<(A.l.length:Int):=by omega
   have hci:(cn:Int)<4:=by omega
   have hci0:(0:Int)≤(cn:Int):=by omega
   have HSet:Hid (F4 W (wR.setCell ⟨g3,cn,none⟩ (.int .i64 (k:Int))) g3 ((firstsTo A.l s.jobs k).set cn (k:Int))):=HF.out.set cn (k:Int)
   clear hS hv hln hx hco hcn hfv hq cs cf
   rcases q with _|⟨p,r⟩
   ·have HN:Hid (F4 W wR g3 (firstsTo A.l s.jobs (k+1))):=by
     show F4 _ _ _ _
     rw[HST.out,if_neg (by simp)]
     exact HF.out
    rw[List.length_nil]at kJ
    clear HST hfa
    go_wp2_with fail
    exact⟨⟨k+1,by omega,by simp,HN.out⟩,by simp[intOf];omega⟩
   have hqne:s.jobs.getD k []≠[]:=by rw[HQ.out];simp
   have HQN:Hid (s.jobs.getD k []≠[]):=hqne
   have hnn:p::r≠[]:=by simp
   have HNN:Hid (p::r≠[]):=hnn
   clear hqne hnn
   generalize hqn:(p::r).length=qn at *
   have hq0:0<qn:=by rw[← hqn];simp
   have hqi:(0:Int)<(qn:Int):=by omega
   clear hqn
   by_cases hf1:fv=-1
   ·subst hf1
    have HN:Hid (F4 W (wR.setCell ⟨g3,cn,none⟩ (.int .i64 (k:Int))) g3 (firstsTo A.l s.jobs (k+1))):=by
     show F4 _ _ _ _
     rw[HST.out,if_pos ⟨HNN.out,.inl rfl⟩]
     exact HSet.out
    clear HST hfa
    go_wp2_with fail
    exact⟨⟨k+1,by omega,by simp,HN.out⟩,by simp[intOf];omega⟩
   rcases hfa with h9|⟨u,rfl,huk,hune,-⟩
   ·exact absurd h9 hf1
   have hfb:((u:Int) == -1)=false:=by simp
   obtain⟨z,hz⟩:∃z,aheadQ A.l s.jobs k u=z:=⟨_,rfl⟩
   have HA:=ahead_any A wR jv mv ev s k u HI.out HSR.out hkl (by omega) HQN.out hune
   rw[hz]at HA
   rcases z with _|_
   ·have HN:Hid (F4 W wR g3 (firstsTo A.l s.jobs (k+1))):=by
     show F4 _ _ _ _
     rw[HST.out,if_neg (by rw[Int.toNat_natCast,hz];simp)]
     exact HF.out
    clear HST hz hf1 hune
    go_wp2_with (go_at_call 152;refine HA.mono ?_;rintro r w5 ⟨rfl,hb5⟩;have H5:Hid (F4 W w5 g3 (firstsTo A.l s.jobs (k+1))):=HN.out.grow hb5;clear hb5 HA)
    exact⟨⟨k+1,by omega,by simp,H5.out⟩,by simp[intOf];omega⟩
   ·have HE:Hid (firstsTo A.l s.jobs (k+1)=(firstsTo A.l s.jobs k).set cn (k:Int)):=by
     show _=_
     rw[HST.out,if_pos ⟨HNN.out,.inr (by rw[Int.toNat_natCast];exact hz)⟩]
    clear HST hz hf1 hune
    go_wp2_with (go_at_call 152;refine HA.mono ?_;rintro r w5 ⟨rfl,hb5⟩;have H5:Hid (F4 W (w5.setCell ⟨g3,cn,none⟩ (.int .i64 (k:Int))) g3 (firstsTo A.l s.jobs (k+1))):=(by
     show F4 _ _ _ _
     rw[HE.out]
     exact(HF.out.grow hb5).set cn (k:Int));have cc5:=below_cell hb5 cc;have fc5:=(cells_of (HF.out.grow hb5).row).2.1 cn;have l35:=heap_lt (HF.out.grow hb5).row;clear hb5 HA cc fc)
    exact⟨⟨k+1,by omega,by simp,H5.out⟩,by simp[intOf];omega⟩
theorem getD_set_self{α:Type}{a:List α}{i:Nat}{x d:α}(h:i<a.length):(a.set i x).getD i d=x:=getD_some (List.getElem?_set_self h)
theorem getD_set_other{α:Type}{a:List α}{i j:Nat}{x d:α}(h:i≠j):(a.set i x).getD j d=a.getD j d:=by
 rw[List.getD_eq_getElem?_getD,List.getElem?_set_ne h,← List.getD_eq_getElem?_getD]
def Gr2(a b:List (List Pc)):Prop:=∀i,a.getD i []≠[]→b.getD i []≠[]
theorem Gr2.refl(a:List (List Pc)):Gr2 a a:=fun _ h=>h
theorem Gr2.trans{a b c:List (List Pc)}(h:Gr2 a b)(h':Gr2 b c):Gr2 a c:=fun i hi=>h' i (h i hi)
theorem gr2_app{a:List (List Pc)}{i:Nat}{x:Pc}:Gr2 a (a.set i (a.getD i []++[x])):=fun j hj=>by
 by_cases e:i=j
 ·subst e
  by_cases hl:i<a.length
  ·rw[getD_set_self hl];simp
  ·rw[List.set_eq_of_length_le (by omega)];exact hj
 ·rw[getD_set_other e];exact hj
theorem doneStep_ok{l:List Pa}{tk:List Int}{m K part cm k:Nat}{s:Sc}{now:Int}(h:SOk l m K s)(hok:PsOk l)(hk:k<l.length)(hc:cm<m):SOk l m (K+1) (doneStep l tk part cm now s k)∧(doneStep l tk part cm now s k).un=s.un∧Gr2 s.jobs (doneStep l tk part cm now s k).jobs∧Gr2 s.mail (doneStep l tk part cm now s k).mail:=by
 unfold doneStep
 split
 ·exact⟨h.mono (Nat.le_succ K),rfl,Gr2.refl _,Gr2.refl _⟩
 ·split
  ·exact⟨h.addJ hok hk hc,rfl,gr2_app,Gr2.refl _⟩
  ·next h9=>exact⟨h.addM hok hk hc h9,rfl,Gr2.refl _,gr2_app⟩
theorem doneTo_ok{l:List Pa}{tk:List Int}{m K part cm:Nat}{s:Sc}{now:Int}(h:SOk l m K s)(hok:PsOk l)(hc:cm<m):∀k,k≤l.length→SOk l m (K+k) (doneTo l tk part cm now s k)∧(doneTo l tk part cm now s k).un=s.un∧Gr2 s.jobs (doneTo l tk part cm now s k).jobs∧Gr2 s.mail (doneTo l tk part cm now s k).mail
 | 0,_=>by
  refine⟨⟨h.lj,h.lm,by simp only[doneTo,List.length_set];exact h.le,fun i r hr=>?_,h.pj,h.pm,h.un⟩,rfl,Gr2.refl _,Gr2.refl _⟩
  rcases set_get hr with ⟨rfl,rfl⟩|⟨-,hr⟩
  ·rw[List.length_set]
   exact h.er i _ (some_getD (by rw[h.le];exact hc))
  ·exact h.er i r hr
 | k+1,hk=>by
  obtain⟨h1,h2,h3,h4⟩:=doneTo_ok h hok hc k (by omega)
  obtain⟨g1,g2,g3,g4⟩:=doneStep_ok (tk:=tk) (part:=part) (now:=now) h1 hok (show k<l.length by omega) hc
  exact⟨g1,g2.trans h2,h3.trans g3,h4.trans g4⟩
theorem coreStep_ok{l:List Pa}{tk:List Int}{m K:Nat}{s:Sc}{now z:Int}(h:SOk l m K s)(hok:PsOk l)(hz:z=-1∨∃u:Nat,z=u∧u<l.length∧s.jobs.getD u []≠[]):SOk l m (K+8) (coreStep l tk now s z)∧(coreStep l tk now s z).un=s.un∧Gr2 s.mail (coreStep l tk now s z).mail∧∀u:Nat,z≠(u:Int)→s.jobs.getD u []≠[]→(coreStep l tk now s z).jobs.getD u []≠[]:=by
 unfold coreStep
 rcases hz with rfl|⟨u,rfl,hu,hne⟩
 ·rw[if_pos rfl]
  exact⟨h.mono (by omega),rfl,Gr2.refl _,fun _ _ h=>h⟩
 ·rw[if_neg (by omega),Int.toNat_natCast]
  have h8:=hok.most
  have h1:=h.runJ hu
  have hq:=h.pj u _ (some_getD (d:=[]) (by rw[h.lj];exact hu))
  have hc:=runC_lt hne hq
  have hg:∀v:Nat,(u:Int)≠(v:Int)→s.jobs.getD v []≠[]→(s.jobs.set u (runQ (s.jobs.getD u []))).getD v []≠[]:=fun v hv hn=>by
   rw[getD_set_other (by omega)];exact hn
  split
  ·obtain⟨g1,g2,g3,g4⟩:=doneTo_ok (tk:=tk) (part:=u) (now:=now+1) h1 hok hc l.length (Nat.le_refl _)
   exact⟨g1.mono (by omega),g2,g4,fun v hv hn=>g3 v (hg v hv hn)⟩
  ·exact⟨h1.mono (by omega),rfl,Gr2.refl _,hg⟩
def Fst4(l:List Pa)(fs:List Int)(jobs:List (List Pc))(c:Nat):Prop:=∀(d:Nat) (z:Int),c≤d→fs[d]?=some z→z=-1∨∃u:Nat,z=u∧u<l.length∧jobs.getD u []≠[]∧(l.getD u paZ).co.toNat=d
theorem Fst4.start(l:List Pa)(jobs:List (List Pc)):Fst4 l (firstsTo l jobs l.length) jobs 0:=fun d z _ h=>by
 rcases firstsTo_at l.length d z h with h|⟨u,h1,h2,h3,h4⟩
 ·exact .inl h
 ·exact .inr ⟨u,h1,h2,h3,h4⟩
theorem coresTo_ok{l:List Pa}{tk:List Int}{m K:Nat}{s:Sc}{now:Int}{fs:List Int}(h:SOk l m K s)(hok:PsOk l)(hl:fs.length=4)(hf:Fst4 l fs s.jobs 0):∀c,c≤4→SOk l m (K+8*c) (coresTo l tk now fs s c)∧(coresTo l tk now fs s c).un=s.un∧Gr2 s.mail (coresTo l tk now fs s c).mail∧Fst4 l fs (coresTo l tk now fs s c).jobs c
 | 0,_=>⟨h,rfl,Gr2.refl _,hf⟩
 | c+1,hc=>by
  obtain⟨h1,h2,h3,h4⟩:=coresTo_ok (tk:=tk) (now:=now) h hok hl hf c (by omega)
  have hz:=h4 c _ (Nat.le_refl _) (some_getD (d:=0) (by omega))
  obtain⟨g1,g2,g3,g4⟩:=coreStep_ok (tk:=tk) (now:=now) h1 hok (z:=fs.getD c 0) (by
   rcases hz with hz|⟨u,e1,e2,e3,-⟩
   ·exact .inl hz
   ·exact .inr ⟨u,e1,e2,e3⟩)
  refine⟨g1.mono (by omega),g2.trans h2,h3.trans g3,fun d z hd hz2=>?_⟩
  rcases h4 d z (by omega) hz2 with e|⟨v,e1,e2,e3,e4⟩
  ·exact .inl e
  ·refine .inr ⟨v,e1,e2,g4 v (fun e=>?_) e3,e4⟩
   rcases hz with hz|⟨u,k1,k2,k3,k4⟩
   ·rw[hz]at e;omega
   ·rw[k1]at e
    have:u=v:=by omega
    subst this
    omega
theorem SOk.runM{l:List Pa}{m K part:Nat}{s:Sc}(h:SOk l m K s)(hp:part<l.length)(hu:s.un=-1∨runD (s.mail.getD part [])=false)(z:Int)(hz:(z=s.un∧runD (s.mail.getD part [])=false)∨z=-1):SOk l m K { s with mail:=s.mail.set part (runQ (s.mail.getD part [])),un:=z }:=by
 refine⟨h.lj,by simp only[List.length_set];exact h.lm,h.le,h.er,h.pj,fun i q hq=>?_,?_⟩
 ·rcases set_get hq with ⟨rfl,rfl⟩|⟨-,hq⟩
  ·obtain⟨h1,h2⟩:=h.pm i _ (some_getD (d:=[]) (by rw[h.lm];exact hp))
   generalize s.mail.getD i []=q0 at *
   cases q0 with
   | nil=>exact⟨h1,h2⟩
   | cons p r =>
    have h3:=h2 p List.mem_cons_self
    by_cases hlf:0<p.lf-1
    ·have e:runQ (p::r)={ p with lf:=p.lf-1 }::r:=if_pos hlf
     rw[e]
     refine⟨h1,fun x hx=>?_⟩
     rcases List.mem_cons.1 hx with rfl|hx
     ·dsimp only;omega
     ·exact h2 x (List.mem_cons_of_mem _ hx)
    ·have e:runQ (p::r)=r:=if_neg hlf
     rw[e]
     exact⟨by rw[List.length_cons]at h1;omega,fun x hx=>h2 x (List.mem_cons_of_mem _ hx)⟩
  ·exact h.pm i q hq
 ·rcases hz with ⟨rfl,hd⟩|rfl
  ·rcases h.un with h1|⟨u,h1,h2,h3⟩
   ·exact .inl h1
   ·refine .inr ⟨u,h1,h2,?_⟩
    show(s.mail.set part _).getD u []≠[]
    by_cases e:part=u
    ·subst e
     rw[getD_set_self (by rw[h.lm];exact hp)]
     generalize s.mail.getD part []=q0 at *
     cases q0 with
     | nil=>exact absurd rfl h3
     | cons p r =>
      have hlf:0<p.lf-1:=by
       by_cases hlf:0<p.lf-1
       ·exact hlf
       ·have:runD (p::r)=true:=by show(!decide (0<p.lf-1))=true;rw[decide_eq_false hlf];rfl
        rw[this]at hd
        cases hd
      rw[show runQ (p::r)={ p with lf:=p.lf-1 }::r from if_pos hlf]
      simp
    ·rw[getD_set_other e];exact h3
  ·exact .inl rfl
theorem mailStep_ok{l:List Pa}{tk:List Int}{m K:Nat}{s:Sc}{now z:Int}(h:SOk l m K s)(hok:PsOk l)(hz:z=-1∨∃u:Nat,z=u∧u<l.length∧s.mail.getD u []≠[]):SOk l m (K+1) (mailStep l tk now s z):=by
 unfold mailStep
 rcases hz with rfl|⟨u,rfl,hu,hne⟩
 ·rw[if_pos rfl]
  exact h.mono (by omega)
 ·rw[if_neg (by omega),Int.toNat_natCast]
  have hq:=h.pm u _ (some_getD (d:=[]) (by rw[h.lm];exact hu))
  have hc:=runC_lt hne hq
  split
  ·refine SOk.addJ ?_ hok hu hc
   refine⟨h.lj,by simp only[List.length_set];exact h.lm,h.le,h.er,h.pj,?_,.inl rfl⟩
   exact(SOk.runM (s:={ s with un:=-1 }) ⟨h.lj,h.lm,h.le,h.er,h.pj,h.pm,.inl rfl⟩ hu (.inl rfl) (-1) (.inr rfl)).pm
  ·next hd =>
   have hd':runD (s.mail.getD u [])=false:=by simpa using hd
   exact(h.runM hu (.inr hd') s.un (.inl ⟨rfl,hd'⟩)).mono (by omega)
theorem tickF_ok{l:List Pa}{tk:List Int}{m K:Nat}{s:Sc}{now:Int}(h:SOk l m K s)(hok:PsOk l):SOk l m (K+40) (tickF l tk s now):=by
 unfold tickF
 obtain⟨h1,h2,h3,h4⟩:=coresTo_ok (tk:=tk) (now:=now) h.sent hok (firstsTo_len l s.jobs l.length) (Fst4.start l s.jobs) 4 (Nat.le_refl _)
 refine(mailStep_ok h1 hok ?_).mono (by omega)
 rcases sentF_at h with e|⟨u,e1,e2,e3⟩
 ·exact .inl e
 ·exact .inr ⟨u,e1,e2,h3 u e3⟩
theorem comeF_ok{l:List Pa}{tk:List Int}{m:Nat}{now:Int}{cs:List Co}(hok:PsOk l)(hcs:∀k<cs.length,(cs.getD k ⟨0,0⟩).k.toNat<l.length)(hm:cs.length=m):∀(ws:List Nat) (K:Nat) (s:Sc),SOk l m K s→(∀k∈ws,k<cs.length)→SOk l m (K+(ws.length-(comeF l tk cs now ws s).1.length)) (comeF l tk cs now ws s).2∧(∀k∈(comeF l tk cs now ws s).1,k<cs.length)∧(comeF l tk cs now ws s).1.length≤ws.length
 | [],K,s,h,_=>⟨h.mono (by omega),(fun k hk=>by simp[comeF]at hk),by simp[comeF]⟩
 | k::r,K,s,h,hw=>by
  unfold comeF
  by_cases e:(cs.getD k ⟨0,0⟩).a=now
  ·rw[if_pos e]
   have hk:=hw k List.mem_cons_self
   obtain⟨g1,g2,g3⟩:=comeF_ok (tk:=tk) (now:=now) hok hcs hm r (K+1) _ (h.addJ (tk:=tk) (now:=now) hok (hcs k hk) (by rw[← hm];exact hk)) (fun j hj=>hw j (List.mem_cons_of_mem _ hj))
   refine⟨g1.mono ?_,g2,by rw[List.length_cons];omega⟩
   rw[List.length_cons]
   omega
  ·rw[if_neg e]
   exact⟨h.mono (by omega),hw,Nat.le_refl _⟩
theorem SW.ranJ{A:Ad}{W w':World}{jv mv ev:List Value}{s:Sc}{u:Nat}{v:Value}{p:Pc}{r:List Pc}{rr:Ending}(h:SW A W jv mv ev s)(hv:jv[u]?=some v)(hu:u<s.jobs.length)(hr:RunPost W A.gJ u v p r rr w'):rr = .returned (.tuple #[.int .i64 p.cm,.bool (runD (p::r))])∧∃jv2,SW A w' jv2 mv ev { s with jobs:=s.jobs.set u (runQ (p::r)) }:=by
 obtain⟨W1,v',hg,⟨z,hz⟩,hb,hl,he,hw⟩:=hr
 refine⟨he,?_⟩
 rcases hw with ⟨-,rfl⟩|⟨-,rfl,rfl⟩
 ·have h1:=h.lineJ hv hu hg hz
  have h2:=h1.putJ (q:=runQ (p::r)) hv (by show u<(s.jobs.set u _).length;rw[List.length_set];exact hu) hl (fun g hg2=>.inl (by rw[← hb];exact hg2))
  have e:({ ({ s with jobs:=s.jobs.set u ({ p with lf:=z }::r) }:Sc) with jobs:=(s.jobs.set u ({ p with lf:=z }::r)).set u (runQ (p::r)) }:Sc)={ s with jobs:=s.jobs.set u (runQ (p::r)) }:=by rw[List.set_set]
  rw[e]at h2
  exact⟨_,h2⟩
 ·exact⟨_,h.lineJ hv hu hg hl⟩
theorem SW.ranM{A:Ad}{W w':World}{jv mv ev:List Value}{s:Sc}{u:Nat}{v:Value}{p:Pc}{r:List Pc}{rr:Ending}(h:SW A W jv mv ev s)(hv:mv[u]?=some v)(hu:u<s.mail.length)(hr:RunPost W A.gM u v p r rr w'):rr = .returned (.tuple #[.int .i64 p.cm,.bool (runD (p::r))])∧∃jv2,SW A w' jv jv2 ev { s with mail:=s.mail.set u (runQ (p::r)) }:=by
 obtain⟨W1,v',hg,⟨z,hz⟩,hb,hl,he,hw⟩:=hr
 refine⟨he,?_⟩
 rcases hw with ⟨-,rfl⟩|⟨-,rfl,rfl⟩
 ·have h1:=h.lineM hv hu hg hz
  have h2:=h1.putM (q:=runQ (p::r)) hv (by show u<(s.mail.set u _).length;rw[List.length_set];exact hu) hl (fun g hg2=>.inl (by rw[← hb];exact hg2))
  have e:({ ({ s with mail:=s.mail.set u ({ p with lf:=z }::r) }:Sc) with mail:=(s.mail.set u ({ p with lf:=z }::r)).set u (runQ (p::r)) }:Sc)={ s with mail:=s.mail.set u (runQ (p::r)) }:=by rw[List.set_set]
  rw[e]at h2
  exact⟨_,h2⟩
 ·exact⟨_,h.lineM hv hu hg hl⟩
set_option maxRecDepth 20000 in
set_option maxHeartbeats 8000000 in
theorem done_any(A:Ad)(W:World)(jv mv ev:List Value)(s:Sc)(part cm K:Nat)(now:Int)(hI:Inp A)(hS:SOk A.l A.m K s)(h:SW A W jv mv ev s)(hp:part<A.l.length)(hc:cm<A.m)(hK:K≤890000):Calls Tryz.prog 103 #[.pointer (some ⟨A.gs,0,none⟩),.int .i64 (part:Int),.int .i64 (cm:Int),.int .i64 now] W fun r w'=>r = .returned (.tuple #[])∧∃jv' mv',SW A w' jv' mv' ev (doneTo A.l A.tk part cm now s A.l.length):=by
 have HI:Hid (Inp A):=hI
 have HSO:Hid (SOk A.l A.m K s):=hS
 have h8:=hI.ok.most
 have h1:=hI.ok.one
 obtain⟨ad1,cl,hpv,-,hcap,hrow⟩:=hI.pr
 rcases hrow with h9|⟨b,o,rfl,hrow⟩
 ·rw[h9]at h1;simp at h1
 have HR:Hid (∀q u,(A.l.flatMap Pa.vals)[q]?=some u→A.w.cell? ⟨b,o+q,none⟩=some u):=hrow
 have HPV:Hid (A.pv = .slice (some ⟨b,o,none⟩) A.l.length cl):=hpv
 obtain⟨ve,hve⟩:∃v,ev[cm]?=some v:=⟨_,List.getElem?_eq_getElem (by rw[h.le];exact hc)⟩
 obtain⟨ge,ce,ex,rfl,⟨hce,-⟩,hge⟩:=h.ens cm ve hve
 have hel:(s.ends.getD cm []).length=A.l.length:=hS.er cm _ (some_getD (by rw[hS.le];exact hc))
 have hcl:cm<s.ends.length:=by rw[hS.le];exact hc
 rw[hel]at hve hce
 have H0:Hid (SW A (W.setCell ⟨ge,part,none⟩ (.int .i64 now)) jv mv ev (doneTo A.l A.tk part cm now s 0)):=h.setEnd hve hcl part now (by rw[hel];exact hp)
 obtain⟨gs1,gs2,gs3⟩:=cells_of hge
 have e0:=gs1 part (.int .i64 ((s.ends.getD cm [])[part]'(by rw[hel];exact hp))) (by rw[List.getElem?_append_left (by rw[List.length_map,hel];exact hp),List.getElem?_map,List.getElem?_eq_getElem];rfl)
 generalize (s.ends.getD cm [])[part]'_=eold at e0
 have ef:=gs2 part
 obtain⟨cs,cf,lgs⟩:=cells_of (l:=[_,_,_,_,_,_]) h.sc
 have k5:=cs 5 _ rfl
 have k0:=cs 0 _ rfl
 rw[hpv]at k0
 have ke:=(cells_of h.er).1 cm _ hve
 have lgE:=heap_lt h.er
 have hpi:(part:Int)<(A.l.length:Int):=by omega
 have hci:(cm:Int)<(A.m:Int):=by omega
 have ng1:ge≠A.gs:=ty_ne hge h.sc (by decide)
 have ng2:ge≠A.gE:=ty_ne hge h.er (by decide)
 clear hI hS h hpv hrow hve hel hge gs1 gs2 cs cf
 go_enter Tryz.func103,Tryz.ntmps103
 go_wp2_with fail
 clear k5 k0 ke lgE ng1 ng2 e0 ef gs3 lgs
 go_loopw [25] (fun iv wr=>∃k:Nat,k≤A.l.length∧iv = .int .i64 (k:Int)∧Hid (∃jv' mv',SW A wr jv' mv' ev (doneTo A.l A.tk part cm now s k))) (fun iv _=>A.l.length-(intOf iv).toNat)
 case atStart=>exact⟨0,Nat.zero_le _,rfl,⟨_,_,H0.out⟩⟩
 case round =>
  obtain⟨k,hk,rfl,HX⟩:=hrel
  clear H0
  by_cases hkl:k<A.l.length
  rotate_left 1
  ·have hke:k=A.l.length:=by omega
   subst hke
   have hki:¬ ((A.l.length:Nat):Int)<(A.l.length:Int):=by omega
   go_wp2_with fail
   go_end0
   exact⟨rfl,HX.out⟩
  obtain⟨jv',mv',hS⟩:=HX.out
  have HS:Hid (SW A wr jv' mv' ev (doneTo A.l A.tk part cm now s k)):=hS
  have HOK:Hid (SOk A.l A.m (K+k) (doneTo A.l A.tk part cm now s k)):=(doneTo_ok HSO.out HI.out.ok hc k hk).1
  obtain⟨x,hx⟩:∃x,A.l[k]?=some x:=⟨_,List.getElem?_eq_getElem hkl⟩
  obtain⟨y0,y1,y2,y3,y4,y5,y6⟩:=pa7_at (fun q u hq=>below_cell hS.bel (HR.out q u hq)) hx
  have lb:=World.block_lt_of_cell? _ _ y0
  have hki:(k:Int)<(A.l.length:Int):=by omega
  have hxd:A.l.getD k paZ=x:=getD_some hx
  obtain⟨xco,xfr,xse,xc,xt,xd,xp⟩:=x
  dsimp only at y0 y1 y2 y3 y4 y5 y6
  have HST:Hid (doneTo A.l A.tk part cm now s (k+1)=if xfr≠(part:Int) then doneTo A.l A.tk part cm now s k else if xse=0 then addJ A.l A.tk (doneTo A.l A.tk part cm now s k) k cm now else addM A.l (doneTo A.l A.tk part cm now s k) k cm now):=by
   show _=_
   rw[show doneTo A.l A.tk part cm now s (k+1)=doneStep A.l A.tk part cm now (doneTo A.l A.tk part cm now s k) k from rfl]
   unfold doneStep
   rw[hxd]
  have HS2:Hid (SW A (wr.alloc (.cells #[.int .i64 xco,.int .i64 xfr,.int .i64 xse,.int .i64 xc,.int .i64 xt,.int .i64 xd,.int .i64 xp] 66)) jv' mv' ev (doneTo A.l A.tk part cm now s k)):=hS.grow (below_new _ _)
  clear hS HX hx hxd
  by_cases hf:xfr=(part:Int)
  rotate_left 1
  ·have hfb:(xfr != (part:Int))=true:=by simpa using hf
   have HN:Hid (∃jv' mv',SW A (wr.alloc (.cells #[.int .i64 xco,.int .i64 xfr,.int .i64 xse,.int .i64 xc,.int .i64 xt,.int .i64 xd,.int .i64 xp] 66)) jv' mv' ev (doneTo A.l A.tk part cm now s (k+1))):=by
    refine⟨jv',mv',?_⟩
    rw[HST.out,if_pos hf]
    exact HS2.out
   clear hf HST
   go_wp2_with fail
   exact⟨⟨k+1,by omega,by simp,HN⟩,by simp[intOf];omega⟩
  have hfb:(xfr != (part:Int))=false:=by simpa using hf
  by_cases hs:xse=0
  ·have HE:Hid (doneTo A.l A.tk part cm now s (k+1)=addJ A.l A.tk (doneTo A.l A.tk part cm now s k) k cm now):=by
    show _=_
    rw[HST.out,if_neg (by simpa using hf),if_pos hs]
   have HC:=addJ_any A (wr.alloc (.cells #[.int .i64 xco,.int .i64 xfr,.int .i64 xse,.int .i64 xc,.int .i64 xt,.int .i64 xd,.int .i64 xp] 66)) jv' mv' ev _ k cm (K+k) now HI.out HOK.out HS2.out hkl hc (by omega)
   rw[← HE.out]at HC
   subst hs
   clear hf HST HE
   go_wp2_with (go_at_call 57;refine HC.mono ?_;rintro r w5 ⟨rfl,jv5,h5⟩;have H5:Hid (∃jv' mv',SW A w5 jv' mv' ev (doneTo A.l A.tk part cm now s (k+1))):=⟨_,_,h5⟩;clear h5 HC)
   exact⟨⟨k+1,by omega,by simp,H5⟩,by simp[intOf];omega⟩
  ·have hsb:(xse == 0)=false:=by simpa using hs
   have HE:Hid (doneTo A.l A.tk part cm now s (k+1)=addM A.l (doneTo A.l A.tk part cm now s k) k cm now):=by
    show _=_
    rw[HST.out,if_neg (by simpa using hf),if_neg hs]
   have HC:=addM_any A (wr.alloc (.cells #[.int .i64 xco,.int .i64 xfr,.int .i64 xse,.int .i64 xc,.int .i64 xt,.int .i64 xd,.int .i64 xp] 66)) jv' mv' ev _ k cm (K+k) now HI.out HOK.out HS2.out hkl (by omega)
   rw[← HE.out]at HC
   clear hf HST HE hs
   go_wp2_with (go_at_call 155;refine HC.mono ?_;rintro r w5 ⟨rfl,mv5,h5⟩;have H5:Hid (∃jv' mv',SW A w5 jv' mv' ev (doneTo A.l A.tk part cm now s (k+1))):=⟨_,_,h5⟩;clear h5 HC)
   exact⟨⟨k+1,by omega,by simp,H5⟩,by simp[intOf];omega⟩
theorem SOk.mailD{l:List Pa}{m K part:Nat}{s:Sc}(h:SOk l m K s)(hp:part<l.length):SOk l m K { s with mail:=s.mail.set part (runQ (s.mail.getD part [])),un:=-1 } :=
 ⟨h.lj,by simp only[List.length_set];exact h.lm,h.le,h.er,h.pj,(SOk.runM (s:={ s with un:=-1 }) ⟨h.lj,h.lm,h.le,h.er,h.pj,h.pm,.inl rfl⟩ hp (.inl rfl) (-1) (.inr rfl)).pm,.inl rfl⟩
theorem SW.runcJ{A:Ad}{W:World}{jv mv ev:List Value}{s:Sc}{u K:Nat}{p:Pc}{r:List Pc}(h:SW A W jv mv ev s)(hS:SOk A.l A.m K s)(hu:u<A.l.length)(hq:s.jobs.getD u []=p::r):Calls Tryz.prog 102 #[.pointer (some ⟨A.gJ,u,none⟩)] W fun rr w'=>rr = .returned (.tuple #[.int .i64 (runC (p::r):Nat),.bool (runD (p::r))])∧∃jv2,SW A w' jv2 mv ev { s with jobs:=s.jobs.set u (runQ (p::r)) }:=by
 obtain⟨v,hv⟩:∃v,jv[u]?=some v:=⟨_,List.getElem?_eq_getElem (by rw[h.lj];exact hu)⟩
 have hl:=h.ljs u v hv
 rw[hq]at hl
 have hb:=(hS.pj u _ (some_getD (d:=[]) (by rw[hS.lj];exact hu))).2
 rw[hq]at hb
 have hp:=hb p List.mem_cons_self
 refine(run_any W A.gJ u v p r (h.cJ hv).2.1 ((cells_of h.jr).2.1 u) hl (fun e=>?_) hp.2.2.1 hp.2.2.2).mono fun rr w' hr=>?_
 ·obtain⟨c,hc⟩:=hl.ty e
  exact ty_ne hc h.jr (by decide) rfl
 ·obtain⟨e,h2⟩:=h.ranJ hv (by rw[hS.lj];exact hu) hr
  refine⟨?_,h2⟩
  rw[e]
  have e2:((runC (p::r):Nat):Int)=p.cm:=by
   show((p.cm.toNat:Nat):Int)=p.cm
   omega
  rw[e2]
theorem SW.runcM{A:Ad}{W:World}{jv mv ev:List Value}{s:Sc}{u K:Nat}{p:Pc}{r:List Pc}(h:SW A W jv mv ev s)(hS:SOk A.l A.m K s)(hu:u<A.l.length)(hq:s.mail.getD u []=p::r):Calls Tryz.prog 102 #[.pointer (some ⟨A.gM,u,none⟩)] W fun rr w'=>rr = .returned (.tuple #[.int .i64 (runC (p::r):Nat),.bool (runD (p::r))])∧∃mv2,SW A w' jv mv2 ev { s with mail:=s.mail.set u (runQ (p::r)) }:=by
 obtain⟨v,hv⟩:∃v,mv[u]?=some v:=⟨_,List.getElem?_eq_getElem (by rw[h.lm];exact hu)⟩
 have hl:=h.lms u v hv
 rw[hq]at hl
 have hb:=(hS.pm u _ (some_getD (d:=[]) (by rw[hS.lm];exact hu))).2
 rw[hq]at hb
 have hp:=hb p List.mem_cons_self
 refine(run_any W A.gM u v p r (h.cM hv).2 ((cells_of h.mr).2.1 u) hl (fun e=>?_) hp.2.2.1 hp.2.2.2).mono fun rr w' hr=>?_
 ·obtain⟨c,hc⟩:=hl.ty e
  exact ty_ne hc h.mr (by decide) rfl
 ·obtain⟨e,h2⟩:=h.ranM hv (by rw[hS.lm];exact hu) hr
  refine⟨?_,h2⟩
  rw[e]
  have e2:((runC (p::r):Nat):Int)=p.cm:=by
   show((p.cm.toNat:Nat):Int)=p.cm
   omega
  rw[e2]
theorem index4(f0 f1 f2 f3 z:Int)(k:Nat)(hk:k<4)(hz : [f0,f1,f2,f3][k]?=some z)(w:World):(Instr.index 105 (.agg #[.int .i64 f0,.int .i64 f1,.int .i64 f2,.int .i64 f3]) (.int .i64 (k:Int))).run Tryz.prog w = .ok (.int .i64 z) w:=by
 rcases(by omega:k=0∨k=1∨k=2∨k=3) with rfl|rfl|rfl|rfl<;>(cases hz;kernel_rfl)
set_option maxRecDepth 20000 in
set_option maxHeartbeats 8000000 in
theorem tick_any(A:Ad)(W:World)(jv mv ev:List Value)(s:Sc)(K:Nat)(now:Int)(hI:Inp A)(hS:SOk A.l A.m K s)(h:SW A W jv mv ev s)(hK:K≤880000)(hn0:0≤now)(hn1:now≤20000):Calls Tryz.prog 58 #[.pointer (some ⟨A.gs,0,none⟩),.int .i64 now] W fun r w'=>r = .returned (.tuple #[])∧∃jv' mv',SW A w' jv' mv' ev (tickF A.l A.tk s now):=by
 have HI:Hid (Inp A):=hI
 have HSO:Hid (SOk A.l A.m K s):=hS
 have h8:=hI.ok.most
 have HF:=firsts_any A W jv mv ev s hI h hS.lj
 have HSE:Hid (∀w1,Below W.heap.size W w1→Calls Tryz.prog 101 #[.pointer (some ⟨A.gs,0,none⟩)] w1 fun r w'=>r = .returned (.int .i64 (sentF s))∧SW A w' jv mv ev { s with un:=sentF s }):=fun w1 hb=>sent_any A w1 jv mv ev s (h.grow hb) hS.lm h8
 obtain⟨sn,hsn⟩:∃sn,sentF s=sn:=⟨_,rfl⟩
 have HSN:Hid (sentF s=sn):=hsn
 have hsa:=sentF_at hS
 rw[hsn]at hsa
 have HSA:Hid (sn=-1∨∃u:Nat,sn=u∧u<A.l.length∧s.mail.getD u []≠[]):=hsa
 have hnw:IntKind.i64.wrap (now+1)=now+1:=by rw[IntKind.wrap_i64];omega
 clear h hI hS hsa hsn
 go_enter Tryz.func58,Tryz.ntmps58
 go_upto_region 1 with (first
  | (go_at_call 101;refine(HSE.out _ HB1.out).mono ?_;rintro r w2 ⟨rfl,hw2⟩;rw[HSN.out];have H3:Hid (SW A (w2.alloc (.cells #[.int .i64 f0,.int .i64 f1,.int .i64 f2,.int .i64 f3] 105)) jv mv ev { s with un:=sentF s }):=hw2.grow (below_new _ _);clear hw2)
  | (go_at_call 100;refine HF.mono ?_;rintro r w1 ⟨f0,f1,f2,f3,hfs,rfl,hb1⟩;have HB1:Hid (Below W.heap.size W w1):=hb1;have HFS:Hid (firstsTo A.l s.jobs A.l.length=[f0,f1,f2,f3]):=hfs;clear hb1 hfs HF))
 obtain⟨cs,-,lg⟩:=cells_of (l:=[_,_,_,_]) (heap_alloc_new w2 (.cells #[.int .i64 f0,.int .i64 f1,.int .i64 f2,.int .i64 f3] 105))
 have c0:=cs 0 _ rfl
 have c1:=cs 1 _ rfl
 have c2:=cs 2 _ rfl
 have c3:=cs 3 _ rfl
 clear cs
 generalize w2.alloc (.cells #[.int .i64 f0,.int .i64 f1,.int .i64 f2,.int .i64 f3] 105)=w3 at *
 generalize w2.heap.size=g4 at *
 have HCO:Hid (∀k,k≤4→SOk A.l A.m (K+8*k) (coresTo A.l A.tk now [f0,f1,f2,f3] (Sc.mk s.jobs s.mail (sentF s) s.ends) k)∧(coresTo A.l A.tk now [f0,f1,f2,f3] (Sc.mk s.jobs s.mail (sentF s) s.ends) k).un=sentF s∧Gr2 s.mail (coresTo A.l A.tk now [f0,f1,f2,f3] (Sc.mk s.jobs s.mail (sentF s) s.ends) k).mail∧Fst4 A.l [f0,f1,f2,f3] (coresTo A.l A.tk now [f0,f1,f2,f3] (Sc.mk s.jobs s.mail (sentF s) s.ends) k).jobs k):=by
  show ∀k,_
  intro k hk
  have h9:=coresTo_ok (tk:=A.tk) (now:=now) (fs:=[f0,f1,f2,f3]) HSO.out.sent HI.out.ok rfl (by rw[← HFS.out];exact Fst4.start A.l s.jobs) k hk
  exact h9
 have HTF:Hid (tickF A.l A.tk s now=mailStep A.l A.tk now (coresTo A.l A.tk now [f0,f1,f2,f3] (Sc.mk s.jobs s.mail (sentF s) s.ends) 4) sn):=by
  show _=_
  unfold tickF
  rw[HFS.out,HSN.out]
 go_wp2_with fail
 clear c0 c1 c2 c3 lg
 go_loopw [17] (fun iv wr=>∃k:Nat,k≤4∧iv = .int .i64 (k:Int)∧Hid (∃jv' mv',SW A wr jv' mv' ev (coresTo A.l A.tk now [f0,f1,f2,f3] (Sc.mk s.jobs s.mail (sentF s) s.ends) k))) (fun iv _=>4-(intOf iv).toNat)
 case atStart=>exact⟨0,by omega,rfl,⟨_,_,H3.out⟩⟩
 case round =>
  obtain⟨k,hk,rfl,HX⟩:=hrel
  clear H3
  by_cases hk4:k<4
  ·have hki:(k:Int)<4:=by omega
   obtain⟨jv',mv',hS⟩:=HX.out
   have HS:Hid (SW A wr jv' mv' ev (coresTo A.l A.tk now [f0,f1,f2,f3] (Sc.mk s.jobs s.mail (sentF s) s.ends) k)):=hS
   clear hS HX
   obtain⟨z,hz⟩:∃z,[f0,f1,f2,f3][k]?=some z:=⟨_,List.getElem?_eq_getElem (by simpa using hk4)⟩
   have hix:=index4 f0 f1 f2 f3 z k hk4 hz
   obtain⟨o1,-,-,o4⟩:=HCO.out k (by omega)
   have hfz:=o4 k z (Nat.le_refl _) hz
   have HOK:Hid (SOk A.l A.m (K+8*k) (coresTo A.l A.tk now [f0,f1,f2,f3] (Sc.mk s.jobs s.mail (sentF s) s.ends) k)):=o1
   have HST:Hid ((coresTo A.l A.tk now [f0,f1,f2,f3] (Sc.mk s.jobs s.mail (sentF s) s.ends) (k+1))=coreStep A.l A.tk now (coresTo A.l A.tk now [f0,f1,f2,f3] (Sc.mk s.jobs s.mail (sentF s) s.ends) k) z):=by
    show _=_
    rw[show(coresTo A.l A.tk now [f0,f1,f2,f3] (Sc.mk s.jobs s.mail (sentF s) s.ends) (k+1))=coreStep A.l A.tk now (coresTo A.l A.tk now [f0,f1,f2,f3] (Sc.mk s.jobs s.mail (sentF s) s.ends) k) ([f0,f1,f2,f3].getD k 0) from rfl,getD_some hz]
   clear hz o1 o4
   rcases hfz with rfl|⟨u,rfl,hu,hne,-⟩
   ·have HN:Hid (∃jv' mv',SW A wr jv' mv' ev (coresTo A.l A.tk now [f0,f1,f2,f3] (Sc.mk s.jobs s.mail (sentF s) s.ends) (k+1))):=by
     refine⟨jv',mv',?_⟩
     rw[HST.out]
     unfold coreStep
     rw[if_pos rfl]
     exact HS.out
    go_wp2_with fail
    exact⟨⟨k+1,by omega,by simp,HN⟩,by simp[intOf];omega⟩
   ·have hzb:((u:Int) == -1)=false:=by simp
    obtain⟨p,r,hq⟩:=List.exists_cons_of_ne_nil hne
    have HC:=HS.out.runcJ HOK.out hu hq
    have hcm:runC (p::r)<A.m:=by
     have h9:=HOK.out.pj u _ (some_getD (d:=[]) (by rw[HOK.out.lj];exact hu))
     rw[hq]at h9
     exact runC_lt (by simp) h9
    have HJ:Hid (SOk A.l A.m (K+8*k) { (coresTo A.l A.tk now [f0,f1,f2,f3] (Sc.mk s.jobs s.mail (sentF s) s.ends) k) with jobs:=(coresTo A.l A.tk now [f0,f1,f2,f3] (Sc.mk s.jobs s.mail (sentF s) s.ends) k).jobs.set u (runQ (p::r)) }):=by
     have h9:=HOK.out.runJ hu
     rw[hq]at h9
     exact h9
    have HST2:Hid ((coresTo A.l A.tk now [f0,f1,f2,f3] (Sc.mk s.jobs s.mail (sentF s) s.ends) (k+1))=if runD (p::r)=true then doneTo A.l A.tk u (runC (p::r)) (now+1) { (coresTo A.l A.tk now [f0,f1,f2,f3] (Sc.mk s.jobs s.mail (sentF s) s.ends) k) with jobs:=(coresTo A.l A.tk now [f0,f1,f2,f3] (Sc.mk s.jobs s.mail (sentF s) s.ends) k).jobs.set u (runQ (p::r)) } A.l.length else { (coresTo A.l A.tk now [f0,f1,f2,f3] (Sc.mk s.jobs s.mail (sentF s) s.ends) k) with jobs:=(coresTo A.l A.tk now [f0,f1,f2,f3] (Sc.mk s.jobs s.mail (sentF s) s.ends) k).jobs.set u (runQ (p::r)) }):=by
     show _=_
     rw[HST.out]
     unfold coreStep
     rw[if_neg (by omega),Int.toNat_natCast,hq]
    have k2:=HS.out.cJ0
    have lgs:=heap_lt HS.out.sc
    have lgJ:=heap_lt HS.out.jr
    have hui:(u:Int)<(A.l.length:Int):=by omega
    clear HST hq hne
    generalize (coresTo A.l A.tk now [f0,f1,f2,f3] (Sc.mk s.jobs s.mail (sentF s) s.ends) k)=sk at *
    generalize runC (p::r)=cm at *
    generalize hd:runD (p::r)=d at *
    generalize runQ (p::r)=q2 at *
    clear hd
    rcases d with _|_
    ·have HE:Hid ((coresTo A.l A.tk now [f0,f1,f2,f3] (Sc.mk s.jobs s.mail (sentF s) s.ends) (k+1))={ sk with jobs:=sk.jobs.set u q2 }):=by
      show _=_
      rw[HST2.out,if_neg (by simp)]
     clear HST2
     go_wp2_with (go_at_call 102;refine HC.mono ?_;rintro r w5 ⟨rfl,jv5,h5⟩;have H5:Hid (∃jv' mv',SW A w5 jv' mv' ev (coresTo A.l A.tk now [f0,f1,f2,f3] (Sc.mk s.jobs s.mail (sentF s) s.ends) (k+1))):=⟨jv5,mv',(by rw[HE.out];exact h5)⟩;clear h5 HC)
     exact⟨⟨k+1,by omega,by simp,H5⟩,by simp[intOf];omega⟩
    ·have HE:Hid ((coresTo A.l A.tk now [f0,f1,f2,f3] (Sc.mk s.jobs s.mail (sentF s) s.ends) (k+1))=doneTo A.l A.tk u cm (now+1) { sk with jobs:=sk.jobs.set u q2 } A.l.length):=by
      show _=_
      rw[HST2.out,if_pos rfl]
     clear HST2
     go_wp2_with (first
      | (go_at_call 103;refine(done_any A _ _ _ ev _ u cm _ (now+1) HI.out HJ.out H5.out hu hcm (by omega)).mono ?_;rintro r w6 ⟨rfl,jv6,mv6,h6⟩;have H6:Hid (∃jv' mv',SW A w6 jv' mv' ev (coresTo A.l A.tk now [f0,f1,f2,f3] (Sc.mk s.jobs s.mail (sentF s) s.ends) (k+1))):=⟨jv6,mv6,(by rw[HE.out];exact h6)⟩;clear h6)
      | (go_at_call 102;refine HC.mono ?_;rintro r w5 ⟨rfl,jv5,h5⟩;have H5:Hid (SW A w5 jv5 mv' ev { sk with jobs:=sk.jobs.set u q2 }):=h5;clear h5 HC))
     exact⟨⟨k+1,by omega,by simp,H6⟩,by simp[intOf];omega⟩
  have hke:k=4:=by omega
  subst hke
  rw[show((4:Nat):Int)=(4:Int) from rfl]
  obtain⟨jv',mv',hS⟩:=HX.out
  have HS:Hid (SW A wr jv' mv' ev (coresTo A.l A.tk now [f0,f1,f2,f3] (Sc.mk s.jobs s.mail (sentF s) s.ends) 4)):=hS
  obtain⟨o1,o2,o3,-⟩:=HCO.out 4 (Nat.le_refl _)
  have HOK:Hid (SOk A.l A.m (K+32) (coresTo A.l A.tk now [f0,f1,f2,f3] (Sc.mk s.jobs s.mail (sentF s) s.ends) 4)):=o1
  have HG:Hid (Gr2 s.mail (coresTo A.l A.tk now [f0,f1,f2,f3] (Sc.mk s.jobs s.mail (sentF s) s.ends) 4).mail):=o3
  clear hS HX o1 o2 o3 HCO
  generalize (coresTo A.l A.tk now [f0,f1,f2,f3] (Sc.mk s.jobs s.mail (sentF s) s.ends) 4)=s4 at *
  rcases HSA.out with hm1|⟨u,hu1,hu,hne⟩
  ·have HE:Hid (tickF A.l A.tk s now=s4):=by
    show _=_
    rw[HTF.out,hm1]
    unfold mailStep
    rw[if_pos rfl]
   clear HTF HSA HSN
   subst hm1
   go_wp2_with fail
   go_returns
   exact⟨rfl,jv',mv',by rw[HE.out];exact HS.out⟩
  ·have hne4:=HG.out u hne
   obtain⟨p,r,hq⟩:=List.exists_cons_of_ne_nil hne4
   have HC:=HS.out.runcM HOK.out hu hq
   have hcm:runC (p::r)<A.m:=by
    have h9:=HOK.out.pm u _ (some_getD (d:=[]) (by rw[HOK.out.lm];exact hu))
    rw[hq]at h9
    exact runC_lt (by simp) h9
   have HMD:Hid (SOk A.l A.m (K+32) { s4 with mail:=s4.mail.set u (runQ (p::r)),un:=-1 }):=by
    have h9:=HOK.out.mailD hu
    rw[hq]at h9
    exact h9
   have HTF2:Hid (tickF A.l A.tk s now=if runD (p::r)=true then addJ A.l A.tk { s4 with mail:=s4.mail.set u (runQ (p::r)),un:=-1 } u (runC (p::r)) (now+1) else { s4 with mail:=s4.mail.set u (runQ (p::r)) }):=by
    show _=_
    rw[HTF.out,hu1]
    unfold mailStep
    rw[if_neg (by omega),Int.toNat_natCast,hq]
   have k3:=HS.out.cM0
   have lgs:=heap_lt HS.out.sc
   have lgM:=heap_lt HS.out.mr
   have hui:(u:Int)<(A.l.length:Int):=by omega
   clear HTF HSA hne hne4 hq HSN
   subst hu1
   generalize runC (p::r)=cm at *
   generalize hd:runD (p::r)=d at *
   generalize runQ (p::r)=q2 at *
   clear hd
   have hzb:((u:Int) == -1)=false:=by simp
   rcases d with _|_
   ·have HE:Hid (tickF A.l A.tk s now={ s4 with mail:=s4.mail.set u q2 }):=by
     show _=_
     rw[HTF2.out,if_neg (by simp)]
    clear HTF2
    go_wp2_with (go_at_call 102;refine HC.mono ?_;rintro r w5 ⟨rfl,mv5,h5⟩;have H5:Hid (SW A w5 jv' mv5 ev { s4 with mail:=s4.mail.set u q2 }):=h5;clear h5 HC)
    go_end0
    exact⟨rfl,jv',mv5,by rw[HE.out];exact H5.out⟩
   ·have HE:Hid (tickF A.l A.tk s now=addJ A.l A.tk { s4 with mail:=s4.mail.set u q2,un:=-1 } u cm (now+1)):=by
     show _=_
     rw[HTF2.out,if_pos rfl]
    clear HTF2
    go_wp2_with (first
     | (go_at_call 57;refine(addJ_any A _ _ _ ev _ u cm _ (now+1) HI.out HMD.out (H5.out.setUn (-1)) hu hcm (by omega)).mono ?_;rintro r w6 ⟨rfl,jv6,h6⟩;have H6:Hid (∃jv',SW A w6 jv' mv5 ev (addJ A.l A.tk { s4 with mail:=s4.mail.set u q2,un:=-1 } u cm (now+1))):=⟨_,h6⟩;clear h6)
     | (go_at_call 102;refine HC.mono ?_;rintro r w5 ⟨rfl,mv5,h5⟩;have H5:Hid (SW A w5 jv' mv5 ev { s4 with mail:=s4.mail.set u q2 }):=h5;obtain⟨ts,tf,tl⟩:=cells_of (l:=[_,_,_,_,_,_]) h5.sc;have t4:=ts 4 _ rfl;have tf4:=tf 4;clear h5 HC ts tf))
    go_end0
    obtain⟨jv6,h6⟩:=H6.out
    exact⟨rfl,jv6,mv5,by rw[HE.out];exact h6⟩
end Go.Proofs.YtccoobcggbbcialGreatDoor
