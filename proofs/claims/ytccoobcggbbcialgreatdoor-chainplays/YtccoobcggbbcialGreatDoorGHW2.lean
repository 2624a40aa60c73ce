import Derived.Test.YtccoobcggbbcialGreatDoorGLa0
namespace Go.Proofs.YtccoobcggbbcialGreatDoor
open Go.ChangeShapes Go.WideShapes Go.ChangeAt Go.RowKit
theorem tqGHW2{P:Program}{md:Region.Mode}{ops:Array Oper}{Q:Exit→Act→World→Prop}{S:World→Prop}{i n:Nat}{oi:Oper}{v:Value}{fuel:Nat}{listed:Array Bool}{l:List Value}{ds:List Deferred}{w:World}
  (hy:∀w,S w→(execOp (Act.eval ⟨l.toArray,ds⟩) oi).run P w = .ok (.value v) w) (h:wpAnyH P md ops Q S fuel (listed.setIfInBounds i true) ⟨(l.set n v).toArray,ds⟩ w)
  (hi:ops[i]?=some oi:=by rfl) (hd:oi.dst=some n:=by rfl) (hs:(Region.noSelect ops && Region.free md ops listed i && (Region.ready md ops listed).contains i)=true:=by kernel_rfl)
  (hQ:∀c a w,Q (.panic c) (a.put oi.dst v) w→Q (.panic c) a w:=by exact fun _ _ _ h=>h) (hg:Region.wanted oi (yielded ops l.toArray)=true:=by rfl) (hS:S w:=by assumption):wpAnyH P md ops Q S (fuel+1) listed ⟨l.toArray,ds⟩ w:=by
 simp only[Bool.and_eq_true]at hs
 exact take_at hi hd hs.1.1 hs.1.2 hs.2 hQ (.inl ⟨hg,hy⟩) hS h
end Go.Proofs.YtccoobcggbbcialGreatDoor
namespace Go.Proofs.YtccoobcggbbcialGreatDoor
open Go.ChangeShapes Go.WideShapes Go.ChangeAt Go.RowKit
theorem SW.cJ{A:Ad}{W:World}{jv mv ev:List Value}{s:Sc}(h:SW A W jv mv ev s){i:Nat}{v:Value}(hv:jv[i]?=some v):W.cell? ⟨A.gs,2,none⟩=some (.slice (some ⟨A.gJ,0,none⟩) A.l.length A.l.length)∧W.cell? ⟨A.gJ,i,none⟩=some v∧W.cell? ⟨A.gs,1,none⟩=some (.func (Fn.func 96) #[] #[.pointer (some ⟨A.gt,0,none⟩),.pointer (some ⟨A.gp,0,none⟩)]):=by
 obtain⟨c,-,-⟩:=cells_of (l:=[_,_,_,_,_,_]) h.sc
 exact⟨c 2 _ rfl,(cells_of h.jr).1 i _ hv,c 1 _ rfl⟩
theorem SW.cJ0{A:Ad}{W:World}{jv mv ev:List Value}{s:Sc}(h:SW A W jv mv ev s):W.cell? ⟨A.gs,2,none⟩=some (.slice (some ⟨A.gJ,0,none⟩) A.l.length A.l.length):=(cells_of (l:=[_,_,_,_,_,_]) h.sc).1 2 _ rfl
theorem SW.cM0{A:Ad}{W:World}{jv mv ev:List Value}{s:Sc}(h:SW A W jv mv ev s):W.cell? ⟨A.gs,3,none⟩=some (.slice (some ⟨A.gM,0,none⟩) A.l.length A.l.length):=(cells_of (l:=[_,_,_,_,_,_]) h.sc).1 3 _ rfl
theorem SW.cM{A:Ad}{W:World}{jv mv ev:List Value}{s:Sc}(h:SW A W jv mv ev s){i:Nat}{v:Value}(hv:mv[i]?=some v):W.cell? ⟨A.gs,3,none⟩=some (.slice (some ⟨A.gM,0,none⟩) A.l.length A.l.length)∧W.cell? ⟨A.gM,i,none⟩=some v:=by
 obtain⟨c,-,-⟩:=cells_of (l:=[_,_,_,_,_,_]) h.sc
 exact⟨c 3 _ rfl,(cells_of h.mr).1 i _ hv⟩
theorem SW.cP{A:Ad}{W:World}{jv mv ev:List Value}{s:Sc}(h:SW A W jv mv ev s){v:Value}(hv:A.pv=v):W.cell? ⟨A.gs,0,none⟩=some v:=by
 obtain⟨c,-,-⟩:=cells_of (l:=[_,_,_,_,_,_]) h.sc
 rw[← hv]
 exact c 0 _ rfl
theorem SW.fresh{A:Ad}{W:World}{jv mv ev:List Value}{s:Sc}(h:SW A W jv mv ev s){g:Nat}(hg:W.heap.size≤g):A.w.heap.size≤g∧(∀u∈jv++mv++ev,u.ownBlock≠some g)∧∀p∈A.F,p.1≠g:=by
 refine⟨Nat.le_trans h.bel.size hg,fun u hu e=>?_,fun p hp e=>?_⟩
 ·rcases List.mem_append.1 hu with hu|hu
  ·rcases List.mem_append.1 hu with hu|hu
   ·obtain⟨i,hi⟩:=List.getElem?_of_mem hu
    obtain⟨c,hc⟩:=(h.ljs i u hi).ty e
    have:=heap_lt hc
    omega
   ·obtain⟨i,hi⟩:=List.getElem?_of_mem hu
    obtain⟨c,hc⟩:=(h.lms i u hi).ty e
    have:=heap_lt hc
    omega
  ·obtain⟨i,hi⟩:=List.getElem?_of_mem hu
   obtain⟨c,hc⟩:=(h.ens i u hi).ty e
   have:=heap_lt hc
   omega
 ·have:=heap_lt (h.fr p hp)
  omega
structure Inp (A:Ad):Prop where
 ok:PsOk A.l
 pr:RowSl Pa.vals A.w A.l A.pv
 tr:RowSl nuV A.w A.tk A.tv
 t0:∀z∈A.tk,0≤z
 tl:A.tk.length≤1000000
 m:A.m≤4000
set_option maxRecDepth 20000 in
set_option maxHeartbeats 4000000 in
theorem addJ_any(A:Ad)(W:World)(jv mv ev:List Value)(s:Sc)(part cm K:Nat)(now:Int)(hI:Inp A)(hS:SOk A.l A.m K s)(h:SW A W jv mv ev s)(hp:part<A.l.length)(hc:cm<A.m)(hK:K≤900000):Calls Tryz.prog 57 #[.pointer (some ⟨A.gs,0,none⟩),.int .i64 (part:Int),.int .i64 (cm:Int),.int .i64 now] W fun r w'=>r = .returned (.tuple #[])∧∃jv',SW A w' jv' mv ev (addJ A.l A.tk s part cm now):=by
 obtain⟨v,hv⟩:∃v,jv[part]?=some v:=⟨_,List.getElem?_eq_getElem (by rw[h.lj];exact hp)⟩
 obtain⟨q,hq⟩:∃q,s.jobs.getD part []=q:=⟨_,rfl⟩
 have hln:=h.ljs part v hv
 rw[hq]at hln
 obtain⟨ad0,c0,rfl⟩:=hln.val
 have hql:q.length≤K:=by
  rw[← hq]
  exact(hS.pj part _ (some_getD (d:=[]) (by rw[hS.lj];exact hp))).1
 have HQ:Hid (s.jobs.getD part []=q):=hq
 have HPL:Hid (part<s.jobs.length):=(by rw[hS.lj];exact hp:part<s.jobs.length)
 have HS0:Hid (SW A W jv mv ev s):=h
 obtain⟨wz,hwz⟩:∃wz,wkF A.l A.tk part cm=wz:=⟨_,rfl⟩
 have HWZ:Hid (wkF A.l A.tk part cm=wz):=hwz
 have HWK:Hid (∀W',Below W.heap.size W W'→Calls Tryz.prog 96 #[.int .i64 (part:Int),.int .i64 (cm:Int),.pointer (some ⟨A.gt,0,none⟩),.pointer (some ⟨A.gp,0,none⟩)] W' fun r w'=>r = .returned (.int .i64 wz)∧Below W'.heap.size W' w'):=fun W' hb=>by
  have h':=h.grow hb
  have h9:=wk_any W' A.l A.tk A.pv A.tv A.gp A.gt part cm ((cells_of (l:=[_]) h'.bp).1 0 _ rfl) ((cells_of (l:=[_]) h'.bt).1 0 _ rfl) (hI.pr.below h'.bel) (hI.tr.below h'.bel) hI.ok hp (by have:=hI.m;omega) hI.tl hI.t0
  rwa[hwz]at h9
 have hpi:(part:Int)<(A.l.length:Int):=by omega
 have hlgs:=heap_lt h.sc
 have hlgJ:=heap_lt h.jr
 obtain⟨k0,k1,k2⟩:=h.cJ hv
 clear hS hI hln hq hwz h
 go_enter Tryz.func57,Tryz.ntmps57
 refine wp_region_noPanic ?_
 refine wp_region_last (S:=fun w'=>w'.cell? ⟨A.gs,2,none⟩=some (.slice (some ⟨A.gJ,0,none⟩) A.l.length A.l.length)∧w'.cell? ⟨A.gJ,part,none⟩=some (.slice ad0 q.length c0)∧w'.cell? ⟨A.gs,1,none⟩=some (.func (Fn.func 96) #[] #[.pointer (some ⟨A.gt,0,none⟩),.pointer (some ⟨A.gp,0,none⟩)])) (L:=25) (by kernel_rfl) ?_
 have hS1:Hid (SW A W.drew jv mv ev s):=HS0.out.grow (Below.refl _ _).drew
 have hHeld:=(hS1.out.cJ hv)
 refine tkL (i:=0) (n:=8) (v:=?_) ?_ ?_
 rotate_left 1
 ·intro wz hSw
  obtain⟨s0,s1,s2⟩:=hSw
  first|(go_simp;done)|(go_simp;with_reducible rfl)
 simp only[ls0,ls1]
 refine tkL (i:=1) (n:=9) (v:=?_) ?_ ?_
 rotate_left 1
 ·intro wz hSw
  obtain⟨s0,s1,s2⟩:=hSw
  first|(go_simp;done)|(go_simp;with_reducible rfl)
 simp only[ls0,ls1]
 refine tkL (i:=2) (n:=10) (v:=?_) ?_ ?_
 rotate_left 1
 ·intro wz hSw
  obtain⟨s0,s1,s2⟩:=hSw
  first|(go_simp;done)|(go_simp;with_reducible rfl)
 simp only[ls0,ls1]
 refine tkL (i:=3) (n:=11) (v:=?_) ?_ ?_
 rotate_left 1
 ·intro wz hSw
  obtain⟨s0,s1,s2⟩:=hSw
  first|(go_simp;done)|(go_simp;with_reducible rfl)
 simp only[ls0,ls1]
 refine tkL (i:=4) (n:=12) (v:=?_) ?_ ?_
 rotate_left 1
 ·intro wz hSw
  obtain⟨s0,s1,s2⟩:=hSw
  first|(go_simp;done)|(go_simp;with_reducible rfl)
 simp only[ls0,ls1]
 refine tkL (i:=5) (n:=13) (v:=?_) ?_ ?_
 rotate_left 1
 ·intro wz hSw
  obtain⟨s0,s1,s2⟩:=hSw
  first|(go_simp;done)|(go_simp;with_reducible rfl)
 simp only[ls0,ls1]
 refine tkL (i:=6) (n:=14) (v:=?_) ?_ ?_
 rotate_left 1
 ·intro wz hSw
  obtain⟨s0,s1,s2⟩:=hSw
  first|(go_simp;done)|(go_simp;with_reducible rfl)
 simp only[ls0,ls1]
 refine tkL (i:=7) (n:=15) (v:=?_) ?_ ?_
 rotate_left 1
 ·intro wz hSw
  obtain⟨s0,s1,s2⟩:=hSw
  first|(go_simp;done)|(go_simp;with_reducible rfl)
 simp only[ls0,ls1]
 refine tkL (i:=8) (n:=16) (v:=?_) ?_ ?_
 rotate_left 1
 ·intro wz hSw
  obtain⟨s0,s1,s2⟩:=hSw
  first|(go_simp;done)|(go_simp;with_reducible rfl)
 simp only[ls0,ls1]
 refine tkL (i:=9) (n:=17) (v:=?_) ?_ ?_
 rotate_left 1
 ·intro wz hSw
  obtain⟨s0,s1,s2⟩:=hSw
  first|(go_simp;done)|(go_simp;with_reducible rfl)
 simp only[ls0,ls1]
 refine tkL (i:=10) (n:=18) (v:=?_) ?_ ?_
 rotate_left 1
 ·intro wz hSw
  obtain⟨s0,s1,s2⟩:=hSw
  first|(go_simp;done)|(go_simp;with_reducible rfl)
 simp only[ls0,ls1]
 refine tkL (i:=11) (n:=19) (v:=?_) ?_ ?_
 rotate_left 1
 ·intro wz hSw
  obtain⟨s0,s1,s2⟩:=hSw
  first|(go_simp;done)|(go_simp;with_reducible rfl)
 simp only[ls0,ls1]
 refine tkL (i:=12) (n:=20) (v:=?_) ?_ ?_
 rotate_left 1
 ·intro wz hSw
  obtain⟨s0,s1,s2⟩:=hSw
  first|(go_simp;done)|(go_simp;with_reducible rfl)
 simp only[ls0,ls1]
 refine tkL (i:=13) (n:=21) (v:=?_) ?_ ?_
 rotate_left 1
 ·intro wz hSw
  obtain⟨s0,s1,s2⟩:=hSw
  first|(go_simp;done)|(go_simp;with_reducible rfl)
 simp only[ls0,ls1]
 refine tkL (i:=14) (n:=22) (v:=?_) ?_ ?_
 rotate_left 1
 ·intro wz hSw
  obtain⟨s0,s1,s2⟩:=hSw
  first|(go_simp;done)|(go_simp;with_reducible rfl)
 simp only[ls0,ls1]
 refine tkL (i:=15) (n:=23) (v:=?_) ?_ ?_
 rotate_left 1
 ·intro wz hSw
  obtain⟨s0,s1,s2⟩:=hSw
  first|(go_simp;done)|(go_simp;with_reducible rfl)
 simp only[ls0,ls1]
 refine tkL (i:=16) (n:=24) (v:=?_) ?_ ?_
 rotate_left 1
 ·intro wz hSw
  obtain⟨s0,s1,s2⟩:=hSw
  first|(go_simp;done)|(go_simp;with_reducible rfl)
 simp only[ls0,ls1]
 refine tkL (i:=17) (n:=25) (v:=?_) ?_ ?_
 rotate_left 1
 ·intro wz hSw
  obtain⟨s0,s1,s2⟩:=hSw
  first|(go_simp;done)|(go_simp;with_reducible rfl)
 simp only[ls0,ls1]
 refine tkL (i:=18) (n:=26) (v:=?_) ?_ ?_
 rotate_left 1
 ·intro wz hSw
  obtain⟨s0,s1,s2⟩:=hSw
  first|(go_simp;done)|(go_simp;with_reducible rfl)
 simp only[ls0,ls1]
 refine tkL (i:=19) (n:=27) (v:=?_) ?_ ?_
 rotate_left 1
 ·intro wz hSw
  obtain⟨s0,s1,s2⟩:=hSw
  first|(go_simp;done)|(go_simp;with_reducible rfl)
 simp only[ls0,ls1]
 refine wpAnyL_one (i:=20) (by kernel_rfl) rfl (fun K hK=>?_)
 go_simp
 go_wp2_with (go_at_call 96;refine(HWK.out _ (Below.refl _ _).drew).mono ?_;rintro r w4 ⟨rfl,hb4⟩)
 have HS4:Hid (SW A w4 jv mv ev s):=hS1.out.grow hb4
 clear hb4
 refine hK.out _ _ (fun _=>(HS4.out.cJ hv)) ?_
 clear hK K
 try simp only[ls0,ls1]
 clear hHeld
 have hHeld:=(HS4.out.cJ hv)
 refine tkL (i:=21) (n:=29) (v:=?_) ?_ ?_
 rotate_left 1
 ·intro wz hSw
  obtain⟨s0,s1,s2⟩:=hSw
  first|(go_simp;done)|(go_simp;with_reducible rfl)
 simp only[ls0,ls1]
 refine wpAnyL_one (i:=22) (by kernel_rfl) rfl (fun K hK=>?_)
 go_simp
 have HS5:Hid (SW A ((w4.alloc (.cells #[.int .i64 (cm:Int),.int .i64 now,.int .i64 wz] 189))) jv mv ev s):=HS4.out.grow (below_new w4 (.cells #[.int .i64 (cm:Int),.int .i64 now,.int .i64 wz] 189))
 have f5:((w4.alloc (.cells #[.int .i64 (cm:Int),.int .i64 now,.int .i64 wz] 189))).heap[w4.heap.size]?=some (.cells #[.int .i64 (cm:Int),.int .i64 now,.int .i64 wz] 189 (0,0)):=heap_alloc_new w4 _
 have n5:(Value.slice ad0 q.length c0).ownBlock≠some w4.heap.size:=fun e=>by
  obtain⟨cc,hcc⟩:=(HS4.out.ljs part _ hv).ty e
  exact Nat.lt_irrefl _ (heap_lt hcc)
 generalize (w4.alloc (.cells #[.int .i64 (cm:Int),.int .i64 now,.int .i64 wz] 189))=w5 at HS5 f5 ⊢
 generalize w4.heap.size=ge at f5 n5 ⊢
 refine hK.out _ _ (fun _=>(HS5.out.cJ hv)) ?_
 clear hK K
 try simp only[ls0,ls1]
 clear hHeld
 have hHeld:=(HS5.out.cJ hv)
 have hl5:=HS5.out.ljs part _ hv
 rw[HQ.out]at hl5
 obtain⟨ad8,c8,w8,hrun,hl8,hold,hgb,hblk⟩:=hl5.push ⟨(cm:Int),now,wz⟩ f5 n5 (by omega)
 have HS8:Hid (SW A w8 jv mv ev { s with jobs:=s.jobs.set part q }):=HS5.out.lineJ hv HPL.out hgb hold
 have HS9:Hid (SW A (w8.setCell ⟨A.gJ,part,none⟩ (.slice ad8 (q.length+1) c8)) (jv.set part (.slice ad8 (q.length+1) c8)) mv ev (addJ A.l A.tk s part cm now)):=by
  have h9:=HS8.out.putJ hv (by show part<(s.jobs.set part q).length;rw[List.length_set];exact HPL.out) hl8 (fun g hg=>by
   rcases hblk g hg with h|h
   ·exact .inl h
   ·exact .inr (HS5.out.fresh h))
  rw[show({ ({ s with jobs:=s.jobs.set part q }:Sc) with jobs:=(s.jobs.set part q).set part (q++[⟨(cm:Int),now,wz⟩]) }:Sc)=addJ A.l A.tk s part cm now by rw[List.set_set];unfold addJ;rw[HQ.out,HWZ.out]]at h9
  exact h9
 have hfz0:=(cells_of HS8.out.jr).2.1 part
 refine wpAnyL_one (i:=23) (by kernel_rfl) rfl (fun K hK=>?_)
 refine region_append2 rfl (.tmp 19) (.tmp 30) 187 31 rfl rfl rfl hrun rfl ?_
 clear hrun hl5 hl8 hold hgb hblk
 refine hK.out _ _ (fun _=>(HS8.out.cJ hv)) ?_
 clear hK K
 try simp only[ls0,ls1]
 clear hHeld
 have hHeld:=(HS8.out.cJ hv)
 simp only[Act.put,List.setIfInBounds_toArray]
 try simp only[ls0,ls1]
 refine tkL (i:=24) (n:=32) (v:=?_) ?_ ?_
 rotate_left 1
 ·intro wz hSw
  obtain⟨s0,s1,s2⟩:=hSw
  first|(go_simp;done)|(go_simp;with_reducible rfl)
 simp only[ls0,ls1]
 have t0:=(HS8.out.cJ hv).2.1
 have lt0:=World.block_lt_of_cell? _ _ t0
 refine wpAnyL_one (i:=25) (by kernel_rfl) rfl (fun K hK=>?_)
 go_simp
 refine hK.out _ _ (fun h=>absurd rfl h) ?_
 clear hK K
 try simp only[ls0,ls1]
 refine wpAnyL_done (by kernel_rfl) ?_ _
 refine NoPanic.normal ?_
 go_end0
 exact⟨rfl,_,HS9.out⟩
set_option maxRecDepth 20000 in
set_option maxHeartbeats 4000000 in
theorem addM_any(A:Ad)(W:World)(jv mv ev:List Value)(s:Sc)(part cm K:Nat)(now:Int)(hI:Inp A)(hS:SOk A.l A.m K s)(h:SW A W jv mv ev s)(hp:part<A.l.length)(hK:K≤900000):Calls Tryz.prog 155 #[.pointer (some ⟨A.gs,0,none⟩),.int .i64 (part:Int),.int .i64 (cm:Int),.int .i64 now] W fun r w'=>r = .returned (.tuple #[])∧∃mv',SW A w' jv mv' ev (addM A.l s part cm now):=by
 obtain⟨v,hv⟩:∃v,mv[part]?=some v:=⟨_,List.getElem?_eq_getElem (by rw[h.lm];exact hp)⟩
 obtain⟨q,hq⟩:∃q,s.mail.getD part []=q:=⟨_,rfl⟩
 have hln:=h.lms part v hv
 rw[hq]at hln
 obtain⟨ad0,c0,rfl⟩:=hln.val
 have hql:q.length≤K:=by
  rw[← hq]
  exact(hS.pm part _ (some_getD (d:=[]) (by rw[hS.lm];exact hp))).1
 have HQ:Hid (s.mail.getD part []=q):=hq
 have HPL:Hid (part<s.mail.length):=(by rw[hS.lm];exact hp:part<s.mail.length)
 have HS0:Hid (SW A W jv mv ev s):=h
 obtain⟨ad1,cl,hpv,-,hcap,hrow⟩:=hI.pr
 rcases hrow with h9|⟨b,o,rfl,hrow⟩
 ·rw[h9]at hp;simp at hp
 obtain⟨x,hx⟩:∃x,A.l[part]?=some x:=⟨_,List.getElem?_eq_getElem hp⟩
 obtain⟨-,-,y2,-⟩:=pa7_at hrow hx
 obtain⟨se,hse⟩:∃se,x.se=se:=⟨_,rfl⟩
 rw[hse]at y2
 have HSX:Hid ((A.l.getD part paZ).se=se):=(by rw[getD_some hx];exact hse:(A.l.getD part paZ).se=se)
 have HSE:Hid (∀W',Below A.w.heap.size A.w W'→W'.cell? ⟨b,o+part*7+2,none⟩=some (.int .i64 se)):=fun W' hb=>below_cell hb y2
 have HPV:Hid (A.pv = .slice (some ⟨b,o,none⟩) A.l.length cl):=hpv
 have hpi:(part:Int)<(A.l.length:Int):=by omega
 have hlgs:=heap_lt h.sc
 have hlgM:=heap_lt h.mr
 obtain⟨k0,k1⟩:=h.cM hv
 have k2:=h.cP hpv
 have k3:=HSE.out _ h.bel
 clear hS hI hln hq h hpv hrow hx hse y2
 go_enter Tryz.func155,Tryz.ntmps155
 refine wp_region_noPanic ?_
 refine wp_region_last (S:=fun w'=>w'.cell? ⟨A.gs,3,none⟩=some (.slice (some ⟨A.gM,0,none⟩) A.l.length A.l.length)∧w'.cell? ⟨A.gM,part,none⟩=some (.slice ad0 q.length c0)∧w'.cell? ⟨A.gs,0,none⟩=some (.slice (some ⟨b,o,none⟩) A.l.length cl)∧w'.cell? ⟨b,o+part*7+2,none⟩=some (.int .i64 se)) (L:=26) (by kernel_rfl) ?_
 have hS1:Hid (SW A W.drew jv mv ev s):=HS0.out.grow (Below.refl _ _).drew
 have hHeld:=(⟨(hS1.out.cM hv).1,(hS1.out.cM hv).2,hS1.out.cP HPV.out,HSE.out _ hS1.out.bel⟩:_∧_∧_∧_)
 refine tkL (i:=0) (n:=8) (v:=?_) ?_ ?_
 rotate_left 1
 ·intro wz hSw
  obtain⟨s0,s1,s2,s3⟩:=hSw
  first|(go_simp;done)|(go_simp;with_reducible rfl)
 simp only[ls0,ls1]
 refine tkL (i:=1) (n:=9) (v:=?_) ?_ ?_
 rotate_left 1
 ·intro wz hSw
  obtain⟨s0,s1,s2,s3⟩:=hSw
  first|(go_simp;done)|(go_simp;with_reducible rfl)
 simp only[ls0,ls1]
 refine tkL (i:=2) (n:=10) (v:=?_) ?_ ?_
 rotate_left 1
 ·intro wz hSw
  obtain⟨s0,s1,s2,s3⟩:=hSw
  first|(go_simp;done)|(go_simp;with_reducible rfl)
 simp only[ls0,ls1]
 refine tkL (i:=3) (n:=11) (v:=?_) ?_ ?_
 rotate_left 1
 ·intro wz hSw
  obtain⟨s0,s1,s2,s3⟩:=hSw
  first|(go_simp;done)|(go_simp;with_reducible rfl)
 simp only[ls0,ls1]
 refine tkL (i:=4) (n:=12) (v:=?_) ?_ ?_
 rotate_left 1
 ·intro wz hSw
  obtain⟨s0,s1,s2,s3⟩:=hSw
  first|(go_simp;done)|(go_simp;with_reducible rfl)
 simp only[ls0,ls1]
 refine tkL (i:=5) (n:=13) (v:=?_) ?_ ?_
 rotate_left 1
 ·intro wz hSw
  obtain⟨s0,s1,s2,s3⟩:=hSw
  first|(go_simp;done)|(go_simp;with_reducible rfl)
 simp only[ls0,ls1]
 refine tkL (i:=6) (n:=14) (v:=?_) ?_ ?_
 rotate_left 1
 ·intro wz hSw
  obtain⟨s0,s1,s2,s3⟩:=hSw
  first|(go_simp;done)|(go_simp;with_reducible rfl)
 simp only[ls0,ls1]
 refine tkL (i:=7) (n:=15) (v:=?_) ?_ ?_
 rotate_left 1
 ·intro wz hSw
  obtain⟨s0,s1,s2,s3⟩:=hSw
  first|(go_simp;done)|(go_simp;with_reducible rfl)
 simp only[ls0,ls1]
 refine tkL (i:=8) (n:=16) (v:=?_) ?_ ?_
 rotate_left 1
 ·intro wz hSw
  obtain⟨s0,s1,s2,s3⟩:=hSw
  first|(go_simp;done)|(go_simp;with_reducible rfl)
 simp only[ls0,ls1]
 refine tkL (i:=9) (n:=17) (v:=?_) ?_ ?_
 rotate_left 1
 ·intro wz hSw
  obtain⟨s0,s1,s2,s3⟩:=hSw
  first|(go_simp;done)|(go_simp;with_reducible rfl)
 simp only[ls0,ls1]
 refine tkL (i:=10) (n:=18) (v:=?_) ?_ ?_
 rotate_left 1
 ·intro wz hSw
  obtain⟨s0,s1,s2,s3⟩:=hSw
  first|(go_simp;done)|(go_simp;with_reducible rfl)
 simp only[ls0,ls1]
 refine tkL (i:=11) (n:=19) (v:=?_) ?_ ?_
 rotate_left 1
 ·intro wz hSw
  obtain⟨s0,s1,s2,s3⟩:=hSw
  first|(go_simp;done)|(go_simp;with_reducible rfl)
 simp only[ls0,ls1]
 refine tkL (i:=12) (n:=20) (v:=?_) ?_ ?_
 rotate_left 1
 ·intro wz hSw
  obtain⟨s0,s1,s2,s3⟩:=hSw
  first|(go_simp;done)|(go_simp;with_reducible rfl)
 simp only[ls0,ls1]
 refine tkL (i:=13) (n:=21) (v:=?_) ?_ ?_
 rotate_left 1
 ·intro wz hSw
  obtain⟨s0,s1,s2,s3⟩:=hSw
  first|(go_simp;done)|(go_simp;with_reducible rfl)
 simp only[ls0,ls1]
 refine tkL (i:=14) (n:=22) (v:=?_) ?_ ?_
 rotate_left 1
 ·intro wz hSw
  obtain⟨s0,s1,s2,s3⟩:=hSw
  first|(go_simp;done)|(go_simp;with_reducible rfl)
 simp only[ls0,ls1]
 refine tkL (i:=15) (n:=23) (v:=?_) ?_ ?_
 rotate_left 1
 ·intro wz hSw
  obtain⟨s0,s1,s2,s3⟩:=hSw
  first|(go_simp;done)|(go_simp;with_reducible rfl)
 simp only[ls0,ls1]
 refine tkL (i:=16) (n:=24) (v:=?_) ?_ ?_
 rotate_left 1
 ·intro wz hSw
  obtain⟨s0,s1,s2,s3⟩:=hSw
  first|(go_simp;done)|(go_simp;with_reducible rfl)
 simp only[ls0,ls1]
 refine tkL (i:=17) (n:=25) (v:=?_) ?_ ?_
 rotate_left 1
 ·intro wz hSw
  obtain⟨s0,s1,s2,s3⟩:=hSw
  first|(go_simp;done)|(go_simp;with_reducible rfl)
 simp only[ls0,ls1]
 refine tkL (i:=18) (n:=26) (v:=?_) ?_ ?_
 rotate_left 1
 ·intro wz hSw
  obtain⟨s0,s1,s2,s3⟩:=hSw
  first|(go_simp;done)|(go_simp;with_reducible rfl)
 simp only[ls0,ls1]
 refine tkL (i:=19) (n:=27) (v:=?_) ?_ ?_
 rotate_left 1
 ·intro wz hSw
  obtain⟨s0,s1,s2,s3⟩:=hSw
  first|(go_simp;done)|(go_simp;with_reducible rfl)
 simp only[ls0,ls1]
 refine tkL (i:=20) (n:=28) (v:=?_) ?_ ?_
 rotate_left 1
 ·intro wz hSw
  obtain⟨s0,s1,s2,s3⟩:=hSw
  first|(go_simp;done)|(go_simp;with_reducible rfl)
 simp only[ls0,ls1]
 refine tkL (i:=21) (n:=29) (v:=?_) ?_ ?_
 rotate_left 1
 ·intro wz hSw
  obtain⟨s0,s1,s2,s3⟩:=hSw
  first|(go_simp;done)|(go_simp;with_reducible rfl)
 simp only[ls0,ls1]
 refine tkL (i:=22) (n:=30) (v:=?_) ?_ ?_
 rotate_left 1
 ·intro wz hSw
  obtain⟨s0,s1,s2,s3⟩:=hSw
  first|(go_simp;done)|(go_simp;with_reducible rfl)
 simp only[ls0,ls1]
 refine wpAnyL_one (i:=23) (by kernel_rfl) rfl (fun K hK=>?_)
 go_simp
 have HS5:Hid (SW A ((W.alloc (.cells #[.int .i64 (cm:Int),.int .i64 now,.int .i64 se] 189)).drew) jv mv ev s):=HS0.out.grow (below_new W (.cells #[.int .i64 (cm:Int),.int .i64 now,.int .i64 se] 189)).drew
 have f5:((W.alloc (.cells #[.int .i64 (cm:Int),.int .i64 now,.int .i64 se] 189)).drew).heap[W.heap.size]?=some (.cells #[.int .i64 (cm:Int),.int .i64 now,.int .i64 se] 189 (0,0)):=heap_alloc_new W _
 have n5:(Value.slice ad0 q.length c0).ownBlock≠some W.heap.size:=fun e=>by
  obtain⟨cc,hcc⟩:=(HS0.out.lms part _ hv).ty e
  exact Nat.lt_irrefl _ (heap_lt hcc)
 generalize (W.alloc (.cells #[.int .i64 (cm:Int),.int .i64 now,.int .i64 se] 189)).drew=w5 at HS5 f5 ⊢
 generalize W.heap.size=ge at f5 n5 ⊢
 refine hK.out _ _ (fun _=>(⟨(HS5.out.cM hv).1,(HS5.out.cM hv).2,HS5.out.cP HPV.out,HSE.out _ HS5.out.bel⟩:_∧_∧_∧_)) ?_
 clear hK K
 try simp only[ls0,ls1]
 clear hHeld
 have hHeld:=(⟨(HS5.out.cM hv).1,(HS5.out.cM hv).2,HS5.out.cP HPV.out,HSE.out _ HS5.out.bel⟩:_∧_∧_∧_)
 have hl5:=HS5.out.lms part _ hv
 rw[HQ.out]at hl5
 obtain⟨ad8,c8,w8,hrun,hl8,hold,hgb,hblk⟩:=hl5.push ⟨(cm:Int),now,se⟩ f5 n5 (by omega)
 have HS8:Hid (SW A w8 jv mv ev { s with mail:=s.mail.set part q }):=HS5.out.lineM hv HPL.out hgb hold
 have HS9:Hid (SW A (w8.setCell ⟨A.gM,part,none⟩ (.slice ad8 (q.length+1) c8)) jv (mv.set part (.slice ad8 (q.length+1) c8)) ev (addM A.l s part cm now)):=by
  have h9:=HS8.out.putM hv (by show part<(s.mail.set part q).length;rw[List.length_set];exact HPL.out) hl8 (fun g hg=>by
   rcases hblk g hg with h|h
   ·exact .inl h
   ·exact .inr (HS5.out.fresh h))
  rw[show({ ({ s with mail:=s.mail.set part q }:Sc) with mail:=(s.mail.set part q).set part (q++[⟨(cm:Int),now,se⟩]) }:Sc)=addM A.l s part cm now by rw[List.set_set];unfold addM;rw[HQ.out,HSX.out]]at h9
  exact h9
 have hfz0:=(cells_of HS8.out.mr).2.1 part
 refine wpAnyL_one (i:=24) (by kernel_rfl) rfl (fun K hK=>?_)
 refine region_append2 rfl (.tmp 19) (.tmp 31) 187 32 rfl rfl rfl hrun rfl ?_
 clear hrun hl5 hl8 hold hgb hblk
 refine hK.out _ _ (fun _=>(⟨(HS8.out.cM hv).1,(HS8.out.cM hv).2,HS8.out.cP HPV.out,HSE.out _ HS8.out.bel⟩:_∧_∧_∧_)) ?_
 clear hK K
 try simp only[ls0,ls1]
 clear hHeld
 have hHeld:=(⟨(HS8.out.cM hv).1,(HS8.out.cM hv).2,HS8.out.cP HPV.out,HSE.out _ HS8.out.bel⟩:_∧_∧_∧_)
 simp only[Act.put,List.setIfInBounds_toArray]
 try simp only[ls0,ls1]
 refine tkL (i:=25) (n:=33) (v:=?_) ?_ ?_
 rotate_left 1
 ·intro wz hSw
  obtain⟨s0,s1,s2,s3⟩:=hSw
  first|(go_simp;done)|(go_simp;with_reducible rfl)
 simp only[ls0,ls1]
 have t0:=(HS8.out.cM hv).2
 have lt0:=World.block_lt_of_cell? _ _ t0
 refine wpAnyL_one (i:=26) (by kernel_rfl) rfl (fun K hK=>?_)
 go_simp
 refine hK.out _ _ (fun h=>absurd rfl h) ?_
 clear hK K
 try simp only[ls0,ls1]
 refine wpAnyL_done (by kernel_rfl) ?_ _
 refine NoPanic.normal ?_
 go_end0
 exact⟨rfl,_,HS9.out⟩
set_option maxRecDepth 20000 in
set_option maxHeartbeats 4000000 in
theorem ahead_any(A:Ad)(W:World)(jv mv ev:List Value)(s:Sc)(i j:Nat)(hI:Inp A)(h:SW A W jv mv ev s)(hi:i<A.l.length)(hj:j<A.l.length)(qi:s.jobs.getD i []≠[])(qj:s.jobs.getD j []≠[]):Calls Tryz.prog 152 #[.pointer (some ⟨A.gs,0,none⟩),.int .i64 (i:Int),.int .i64 (j:Int)] W fun r w'=>r = .returned (.bool (aheadQ A.l s.jobs i j))∧Below W.heap.size W w':=by
 obtain⟨va,hva⟩:∃v,jv[i]?=some v:=⟨_,List.getElem?_eq_getElem (by rw[h.lj];exact hi)⟩
 obtain⟨vb,hvb⟩:∃v,jv[j]?=some v:=⟨_,List.getElem?_eq_getElem (by rw[h.lj];exact hj)⟩
 have la:=h.ljs i va hva
 have lb:=h.ljs j vb hvb
 obtain⟨z,hz⟩:∃z,aheadQ A.l s.jobs i j=z:=⟨_,rfl⟩
 have HZ:Hid (aheadQ A.l s.jobs i j=z):=hz
 rw[hz]
 obtain⟨ad1,cl,hpv,-,hcap,hrow⟩:=hI.pr
 rcases hrow with h9|⟨b,o,rfl,hrow⟩
 ·rw[h9]at hi;simp at hi
 obtain⟨x,hx⟩:∃x,A.l[i]?=some x:=⟨_,List.getElem?_eq_getElem hi⟩
 obtain⟨y,hy⟩:∃y,A.l[j]?=some y:=⟨_,List.getElem?_eq_getElem hj⟩
 obtain⟨-,-,-,-,-,-,ya⟩:=pa7_at (fun q u hq=>below_cell h.bel (hrow q u hq)) hx
 obtain⟨-,-,-,-,-,-,yb⟩:=pa7_at (fun q u hq=>below_cell h.bel (hrow q u hq)) hy
 have HXY:Hid (A.l.getD i paZ=x∧A.l.getD j paZ=y):=⟨getD_some hx,getD_some hy⟩
 obtain⟨pa,hpa⟩:∃pa,x.p=pa:=⟨_,rfl⟩
 obtain⟨pb,hpb⟩:∃pb,y.p=pb:=⟨_,rfl⟩
 rw[hpa]at ya
 rw[hpb]at yb
 have HP:Hid (x.p=pa∧y.p=pb):=⟨hpa,hpb⟩
 have k0:=h.cP hpv
 have k2:=h.cJ0
 have ja:=(h.cJ hva).2.1
 have jb:=(h.cJ hvb).2.1
 obtain⟨p1,ra,hqa⟩:∃p r,s.jobs.getD i []=p::r:=List.exists_cons_of_ne_nil qi
 obtain⟨p2,rb,hqb⟩:∃p r,s.jobs.getD j []=p::r:=List.exists_cons_of_ne_nil qj
 have HQ:Hid (s.jobs.getD i []=p1::ra∧s.jobs.getD j []=p2::rb):=⟨hqa,hqb⟩
 rw[hqa]at la
 rw[hqb]at lb
 obtain⟨ga,oa,ca,rfl,-,-,ha,-,-,lga,-⟩:=la.head
 obtain⟨gb,ob,cb,rfl,-,-,hb,-,-,lgb,-⟩:=lb.head
 obtain⟨sa,hsa⟩:∃sa,p1.si=sa:=⟨_,rfl⟩
 obtain⟨sb,hsb⟩:∃sb,p2.si=sb:=⟨_,rfl⟩
 rw[hsa]at ha
 rw[hsb]at hb
 have HSI:Hid (p1.si=sa∧p2.si=sb):=⟨hsa,hsb⟩
 have hii:(i:Int)<(A.l.length:Int):=by omega
 have hji:(j:Int)<(A.l.length:Int):=by omega
 have lgs:=heap_lt h.sc
 have lgJ:=heap_lt h.jr
 have lgb2:=World.block_lt_of_cell? _ _ ya
 have hr1:(0:Int)<((ra.length+1:Nat):Int):=by omega
 have hr2:(0:Int)<(ra.length:Int)+1:=by omega
 have hr3:(0:Int)<((rb.length+1:Nat):Int):=by omega
 have hr4:(0:Int)<(rb.length:Int)+1:=by omega
 clear h la lb hva hvb hI hz hpv hrow hx hy hpa hpb hqa hqb hsa hsb
 go_enter Tryz.func152,Tryz.ntmps152
 go_upto_region 1 with fail
 refine wp_region_noPanic ?_
 refine wp_region_held_drew (S:=fun w'=>w'.cell? ⟨A.gs,0,none⟩=some (.slice (some ⟨b,o,none⟩) A.l.length cl)∧w'.cell? ⟨b,o+i*7+6,none⟩=some (.int .i64 pa)∧w'.cell? ⟨b,o+j*7+6,none⟩=some (.int .i64 pb)) (by kernel_rfl) ⟨k0,ya,yb⟩ (fun hHeld=>?_)
 refine tqGHW2 (i:=0) (n:=7) (v:=?_) ?_ ?_
 rotate_left 1
 ·intro wz hSw
  obtain⟨s0,s1,s2⟩:=hSw
  first|(go_simp;done)|(go_simp;with_reducible rfl)
 simp only[ls0,ls1]
 refine tqGHW2 (i:=1) (n:=8) (v:=?_) ?_ ?_
 rotate_left 1
 ·intro wz hSw
  obtain⟨s0,s1,s2⟩:=hSw
  first|(go_simp;done)|(go_simp;with_reducible rfl)
 simp only[ls0,ls1]
 refine tqGHW2 (i:=2) (n:=9) (v:=?_) ?_ ?_
 rotate_left 1
 ·intro wz hSw
  obtain⟨s0,s1,s2⟩:=hSw
  first|(go_simp;done)|(go_simp;with_reducible rfl)
 simp only[ls0,ls1]
 refine tqGHW2 (i:=3) (n:=10) (v:=?_) ?_ ?_
 rotate_left 1
 ·intro wz hSw
  obtain⟨s0,s1,s2⟩:=hSw
  first|(go_simp;done)|(go_simp;with_reducible rfl)
 simp only[ls0,ls1]
 refine tqGHW2 (i:=4) (n:=11) (v:=?_) ?_ ?_
 rotate_left 1
 ·intro wz hSw
  obtain⟨s0,s1,s2⟩:=hSw
  first|(go_simp;done)|(go_simp;with_reducible rfl)
 simp only[ls0,ls1]
 refine tqGHW2 (i:=5) (n:=12) (v:=?_) ?_ ?_
 rotate_left 1
 ·intro wz hSw
  obtain⟨s0,s1,s2⟩:=hSw
  first|(go_simp;done)|(go_simp;with_reducible rfl)
 simp only[ls0,ls1]
 refine tqGHW2 (i:=6) (n:=13) (v:=?_) ?_ ?_
 rotate_left 1
 ·intro wz hSw
  obtain⟨s0,s1,s2⟩:=hSw
  first|(go_simp;done)|(go_simp;with_reducible rfl)
 simp only[ls0,ls1]
 refine tqGHW2 (i:=7) (n:=14) (v:=?_) ?_ ?_
 rotate_left 1
 ·intro wz hSw
  obtain⟨s0,s1,s2⟩:=hSw
  first|(go_simp;done)|(go_simp;with_reducible rfl)
 simp only[ls0,ls1]
 refine tqGHW2 (i:=8) (n:=15) (v:=?_) ?_ ?_
 rotate_left 1
 ·intro wz hSw
  obtain⟨s0,s1,s2⟩:=hSw
  first|(go_simp;done)|(go_simp;with_reducible rfl)
 simp only[ls0,ls1]
 refine tqGHW2 (i:=9) (n:=16) (v:=?_) ?_ ?_
 rotate_left 1
 ·intro wz hSw
  obtain⟨s0,s1,s2⟩:=hSw
  first|(go_simp;done)|(go_simp;with_reducible rfl)
 simp only[ls0,ls1]
 refine tqGHW2 (i:=10) (n:=17) (v:=?_) ?_ ?_
 rotate_left 1
 ·intro wz hSw
  obtain⟨s0,s1,s2⟩:=hSw
  first|(go_simp;done)|(go_simp;with_reducible rfl)
 simp only[ls0,ls1]
 refine tqGHW2 (i:=11) (n:=18) (v:=?_) ?_ ?_
 rotate_left 1
 ·intro wz hSw
  obtain⟨s0,s1,s2⟩:=hSw
  first|(go_simp;done)|(go_simp;with_reducible rfl)
 simp only[ls0,ls1]
 refine tqGHW2 (i:=12) (n:=19) (v:=?_) ?_ ?_
 rotate_left 1
 ·intro wz hSw
  obtain⟨s0,s1,s2⟩:=hSw
  first|(go_simp;done)|(go_simp;with_reducible rfl)
 simp only[ls0,ls1]
 refine tqGHW2 (i:=13) (n:=20) (v:=?_) ?_ ?_
 rotate_left 1
 ·intro wz hSw
  obtain⟨s0,s1,s2⟩:=hSw
  first|(go_simp;done)|(go_simp;with_reducible rfl)
 simp only[ls0,ls1]
 refine tqGHW2 (i:=14) (n:=21) (v:=?_) ?_ ?_
 rotate_left 1
 ·intro wz hSw
  obtain⟨s0,s1,s2⟩:=hSw
  first|(go_simp;done)|(go_simp;with_reducible rfl)
 simp only[ls0,ls1]
 refine tqGHW2 (i:=15) (n:=22) (v:=?_) ?_ ?_
 rotate_left 1
 ·intro wz hSw
  obtain⟨s0,s1,s2⟩:=hSw
  first|(go_simp;done)|(go_simp;with_reducible rfl)
 simp only[ls0,ls1]
 refine tqGHW2 (i:=16) (n:=23) (v:=?_) ?_ ?_
 rotate_left 1
 ·intro wz hSw
  obtain⟨s0,s1,s2⟩:=hSw
  first|(go_simp;done)|(go_simp;with_reducible rfl)
 simp only[ls0,ls1]
 refine wpAnyH_done (by kernel_rfl) ?_ _
 refine NoPanic.normal ?_
 clear hHeld
 by_cases hne:pa=pb
 rotate_left 1
 ·have hb:(pa != pb)=true:=by simpa using hne
  have hzz:Hid (z=decide (pb<pa)):=by
   show z=_
   rw[← HZ.out]
   unfold aheadQ
   rw[HXY.out.1,HXY.out.2,HP.out.1,HP.out.2,if_pos hne]
  clear hne
  go_upto_region 2 with fail
  refine wp_region_noPanic ?_
  refine wp_region_held_drew (S:=fun w'=>w'.cell? ⟨A.gs,0,none⟩=some (.slice (some ⟨b,o,none⟩) A.l.length cl)∧w'.cell? ⟨b,o+i*7+6,none⟩=some (.int .i64 pa)∧w'.cell? ⟨b,o+j*7+6,none⟩=some (.int .i64 pb)) (by kernel_rfl) ⟨k0,ya,yb⟩ (fun hHeld=>?_)
  refine tqGHW2 (i:=0) (n:=24) (v:=?_) ?_ ?_
  rotate_left 1
  ·intro wz hSw
   obtain⟨s0,s1,s2⟩:=hSw
   first|(go_simp;done)|(go_simp;with_reducible rfl)
  simp only[ls0,ls1]
  refine tqGHW2 (i:=1) (n:=25) (v:=?_) ?_ ?_
  rotate_left 1
  ·intro wz hSw
   obtain⟨s0,s1,s2⟩:=hSw
   first|(go_simp;done)|(go_simp;with_reducible rfl)
  simp only[ls0,ls1]
  refine tqGHW2 (i:=2) (n:=26) (v:=?_) ?_ ?_
  rotate_left 1
  ·intro wz hSw
   obtain⟨s0,s1,s2⟩:=hSw
   first|(go_simp;done)|(go_simp;with_reducible rfl)
  simp only[ls0,ls1]
  refine tqGHW2 (i:=3) (n:=27) (v:=?_) ?_ ?_
  rotate_left 1
  ·intro wz hSw
   obtain⟨s0,s1,s2⟩:=hSw
   first|(go_simp;done)|(go_simp;with_reducible rfl)
  simp only[ls0,ls1]
  refine tqGHW2 (i:=4) (n:=28) (v:=?_) ?_ ?_
  rotate_left 1
  ·intro wz hSw
   obtain⟨s0,s1,s2⟩:=hSw
   first|(go_simp;done)|(go_simp;with_reducible rfl)
  simp only[ls0,ls1]
  refine tqGHW2 (i:=5) (n:=29) (v:=?_) ?_ ?_
  rotate_left 1
  ·intro wz hSw
   obtain⟨s0,s1,s2⟩:=hSw
   first|(go_simp;done)|(go_simp;with_reducible rfl)
  simp only[ls0,ls1]
  refine tqGHW2 (i:=6) (n:=30) (v:=?_) ?_ ?_
  rotate_left 1
  ·intro wz hSw
   obtain⟨s0,s1,s2⟩:=hSw
   first|(go_simp;done)|(go_simp;with_reducible rfl)
  simp only[ls0,ls1]
  refine tqGHW2 (i:=7) (n:=31) (v:=?_) ?_ ?_
  rotate_left 1
  ·intro wz hSw
   obtain⟨s0,s1,s2⟩:=hSw
   first|(go_simp;done)|(go_simp;with_reducible rfl)
  simp only[ls0,ls1]
  refine tqGHW2 (i:=8) (n:=32) (v:=?_) ?_ ?_
  rotate_left 1
  ·intro wz hSw
   obtain⟨s0,s1,s2⟩:=hSw
   first|(go_simp;done)|(go_simp;with_reducible rfl)
  simp only[ls0,ls1]
  refine tqGHW2 (i:=9) (n:=33) (v:=?_) ?_ ?_
  rotate_left 1
  ·intro wz hSw
   obtain⟨s0,s1,s2⟩:=hSw
   first|(go_simp;done)|(go_simp;with_reducible rfl)
  simp only[ls0,ls1]
  refine tqGHW2 (i:=10) (n:=34) (v:=?_) ?_ ?_
  rotate_left 1
  ·intro wz hSw
   obtain⟨s0,s1,s2⟩:=hSw
   first|(go_simp;done)|(go_simp;with_reducible rfl)
  simp only[ls0,ls1]
  refine tqGHW2 (i:=11) (n:=35) (v:=?_) ?_ ?_
  rotate_left 1
  ·intro wz hSw
   obtain⟨s0,s1,s2⟩:=hSw
   first|(go_simp;done)|(go_simp;with_reducible rfl)
  simp only[ls0,ls1]
  refine tqGHW2 (i:=12) (n:=36) (v:=?_) ?_ ?_
  rotate_left 1
  ·intro wz hSw
   obtain⟨s0,s1,s2⟩:=hSw
   first|(go_simp;done)|(go_simp;with_reducible rfl)
  simp only[ls0,ls1]
  refine tqGHW2 (i:=13) (n:=37) (v:=?_) ?_ ?_
  rotate_left 1
  ·intro wz hSw
   obtain⟨s0,s1,s2⟩:=hSw
   first|(go_simp;done)|(go_simp;with_reducible rfl)
  simp only[ls0,ls1]
  refine tqGHW2 (i:=14) (n:=38) (v:=?_) ?_ ?_
  rotate_left 1
  ·intro wz hSw
   obtain⟨s0,s1,s2⟩:=hSw
   first|(go_simp;done)|(go_simp;with_reducible rfl)
  simp only[ls0,ls1]
  refine tqGHW2 (i:=15) (n:=39) (v:=?_) ?_ ?_
  rotate_left 1
  ·intro wz hSw
   obtain⟨s0,s1,s2⟩:=hSw
   first|(go_simp;done)|(go_simp;with_reducible rfl)
  simp only[ls0,ls1]
  refine tqGHW2 (i:=16) (n:=40) (v:=?_) ?_ ?_
  rotate_left 1
  ·intro wz hSw
   obtain⟨s0,s1,s2⟩:=hSw
   first|(go_simp;done)|(go_simp;with_reducible rfl)
  simp only[ls0,ls1]
  refine tqGHW2 (i:=17) (n:=6) (v:=?_) ?_ ?_
  rotate_left 1
  ·intro wz hSw
   obtain⟨s0,s1,s2⟩:=hSw
   first|(go_simp;done)|(go_simp;with_reducible rfl)
  simp only[ls0,ls1]
  refine wpAnyH_done (by kernel_rfl) ?_ _
  refine NoPanic.normal ?_
  clear hHeld
  go_wp2_with fail
  go_ret
  exact⟨by rw[hzz.out];rfl,(Below.refl _ _).drew.drew⟩
 subst hne
 have hzz:Hid (z=decide (sa<sb)):=by
  show z=_
  rw[← HZ.out]
  unfold aheadQ
  rw[HXY.out.1,HXY.out.2,HP.out.1,HP.out.2,if_neg (by simp),HQ.out.1,HQ.out.2]
  show decide (p1.si<p2.si)=_
  rw[HSI.out.1,HSI.out.2]
 go_upto_region 3 with fail
 refine wp_region_noPanic ?_
 refine wp_region_held_drew (S:=fun w'=>w'.cell? ⟨A.gs,2,none⟩=some (.slice (some ⟨A.gJ,0,none⟩) A.l.length A.l.length)∧w'.cell? ⟨A.gJ,i,none⟩=some (.slice (some ⟨ga,oa,none⟩) (ra.length+1) ca)∧w'.cell? ⟨A.gJ,j,none⟩=some (.slice (some ⟨gb,ob,none⟩) (rb.length+1) cb)∧w'.cell? ⟨ga,oa+1,none⟩=some (.int .i64 sa)∧w'.cell? ⟨gb,ob+1,none⟩=some (.int .i64 sb)) (by kernel_rfl) ⟨k2,ja,jb,ha,hb⟩ (fun hHeld=>?_)
 refine tqGHW2 (i:=0) (n:=41) (v:=?_) ?_ ?_
 rotate_left 1
 ·intro wz hSw
  obtain⟨s0,s1,s2,s3,s4⟩:=hSw
  first|(go_simp;done)|(go_simp;with_reducible rfl)
 simp only[ls0,ls1]
 refine tqGHW2 (i:=1) (n:=42) (v:=?_) ?_ ?_
 rotate_left 1
 ·intro wz hSw
  obtain⟨s0,s1,s2,s3,s4⟩:=hSw
  first|(go_simp;done)|(go_simp;with_reducible rfl)
 simp only[ls0,ls1]
 refine tqGHW2 (i:=2) (n:=43) (v:=?_) ?_ ?_
 rotate_left 1
 ·intro wz hSw
  obtain⟨s0,s1,s2,s3,s4⟩:=hSw
  first|(go_simp;done)|(go_simp;with_reducible rfl)
 simp only[ls0,ls1]
 refine tqGHW2 (i:=3) (n:=44) (v:=?_) ?_ ?_
 rotate_left 1
 ·intro wz hSw
  obtain⟨s0,s1,s2,s3,s4⟩:=hSw
  first|(go_simp;done)|(go_simp;with_reducible rfl)
 simp only[ls0,ls1]
 refine tqGHW2 (i:=4) (n:=45) (v:=?_) ?_ ?_
 rotate_left 1
 ·intro wz hSw
  obtain⟨s0,s1,s2,s3,s4⟩:=hSw
  first|(go_simp;done)|(go_simp;with_reducible rfl)
 simp only[ls0,ls1]
 refine tqGHW2 (i:=5) (n:=46) (v:=?_) ?_ ?_
 rotate_left 1
 ·intro wz hSw
  obtain⟨s0,s1,s2,s3,s4⟩:=hSw
  first|(go_simp;done)|(go_simp;with_reducible rfl)
 simp only[ls0,ls1]
 refine tqGHW2 (i:=6) (n:=47) (v:=?_) ?_ ?_
 rotate_left 1
 ·intro wz hSw
  obtain⟨s0,s1,s2,s3,s4⟩:=hSw
  first|(go_simp;done)|(go_simp;with_reducible rfl)
 simp only[ls0,ls1]
 refine tqGHW2 (i:=7) (n:=48) (v:=?_) ?_ ?_
 rotate_left 1
 ·intro wz hSw
  obtain⟨s0,s1,s2,s3,s4⟩:=hSw
  first|(go_simp;done)|(go_simp;with_reducible rfl)
 simp only[ls0,ls1]
 refine tqGHW2 (i:=8) (n:=49) (v:=?_) ?_ ?_
 rotate_left 1
 ·intro wz hSw
  obtain⟨s0,s1,s2,s3,s4⟩:=hSw
  first|(go_simp;done)|(go_simp;with_reducible rfl)
 simp only[ls0,ls1]
 refine tqGHW2 (i:=9) (n:=50) (v:=?_) ?_ ?_
 rotate_left 1
 ·intro wz hSw
  obtain⟨s0,s1,s2,s3,s4⟩:=hSw
  first|(go_simp;done)|(go_simp;with_reducible rfl)
 simp only[ls0,ls1]
 refine tqGHW2 (i:=10) (n:=51) (v:=?_) ?_ ?_
 rotate_left 1
 ·intro wz hSw
  obtain⟨s0,s1,s2,s3,s4⟩:=hSw
  first|(go_simp;done)|(go_simp;with_reducible rfl)
 simp only[ls0,ls1]
 refine tqGHW2 (i:=11) (n:=52) (v:=?_) ?_ ?_
 rotate_left 1
 ·intro wz hSw
  obtain⟨s0,s1,s2,s3,s4⟩:=hSw
  first|(go_simp;done)|(go_simp;with_reducible rfl)
 simp only[ls0,ls1]
 refine tqGHW2 (i:=12) (n:=53) (v:=?_) ?_ ?_
 rotate_left 1
 ·intro wz hSw
  obtain⟨s0,s1,s2,s3,s4⟩:=hSw
  first|(go_simp;done)|(go_simp;with_reducible rfl)
 simp only[ls0,ls1]
 refine tqGHW2 (i:=13) (n:=54) (v:=?_) ?_ ?_
 rotate_left 1
 ·intro wz hSw
  obtain⟨s0,s1,s2,s3,s4⟩:=hSw
  first|(go_simp;done)|(go_simp;with_reducible rfl)
 simp only[ls0,ls1]
 refine tqGHW2 (i:=14) (n:=55) (v:=?_) ?_ ?_
 rotate_left 1
 ·intro wz hSw
  obtain⟨s0,s1,s2,s3,s4⟩:=hSw
  first|(go_simp;done)|(go_simp;with_reducible rfl)
 simp only[ls0,ls1]
 refine tqGHW2 (i:=15) (n:=56) (v:=?_) ?_ ?_
 rotate_left 1
 ·intro wz hSw
  obtain⟨s0,s1,s2,s3,s4⟩:=hSw
  first|(go_simp;done)|(go_simp;with_reducible rfl)
 simp only[ls0,ls1]
 refine tqGHW2 (i:=16) (n:=57) (v:=?_) ?_ ?_
 rotate_left 1
 ·intro wz hSw
  obtain⟨s0,s1,s2,s3,s4⟩:=hSw
  first|(go_simp;done)|(go_simp;with_reducible rfl)
 simp only[ls0,ls1]
 refine tqGHW2 (i:=17) (n:=58) (v:=?_) ?_ ?_
 rotate_left 1
 ·intro wz hSw
  obtain⟨s0,s1,s2,s3,s4⟩:=hSw
  first|(go_simp;done)|(go_simp;with_reducible rfl)
 simp only[ls0,ls1]
 refine tqGHW2 (i:=18) (n:=59) (v:=?_) ?_ ?_
 rotate_left 1
 ·intro wz hSw
  obtain⟨s0,s1,s2,s3,s4⟩:=hSw
  first|(go_simp;done)|(go_simp;with_reducible rfl)
 simp only[ls0,ls1]
 refine tqGHW2 (i:=19) (n:=60) (v:=?_) ?_ ?_
 rotate_left 1
 ·intro wz hSw
  obtain⟨s0,s1,s2,s3,s4⟩:=hSw
  first|(go_simp;done)|(go_simp;with_reducible rfl)
 simp only[ls0,ls1]
 refine tqGHW2 (i:=20) (n:=61) (v:=?_) ?_ ?_
 rotate_left 1
 ·intro wz hSw
  obtain⟨s0,s1,s2,s3,s4⟩:=hSw
  first|(go_simp;done)|(go_simp;with_reducible rfl)
 simp only[ls0,ls1]
 refine tqGHW2 (i:=21) (n:=6) (v:=?_) ?_ ?_
 rotate_left 1
 ·intro wz hSw
  obtain⟨s0,s1,s2,s3,s4⟩:=hSw
  first|(go_simp;done)|(go_simp;with_reducible rfl)
 simp only[ls0,ls1]
 refine wpAnyH_done (by kernel_rfl) ?_ _
 refine NoPanic.normal ?_
 clear hHeld
 go_wp2_with fail
 go_ret
 exact⟨by rw[hzz.out];rfl,(Below.refl _ _).drew.drew⟩
theorem lenC_any(W:World)(ad:Option Addr)(n c:Nat):Calls Tryz.prog 154 #[.slice ad n c] W fun r w'=>r = .returned (.bool (decide (0<n)))∧w'=W:=by
 go_enter Tryz.func154,Tryz.ntmps154
 go_wp2_with fail
 go_ret
 exact⟨by simp,rfl⟩
set_option maxRecDepth 20000 in
set_option maxHeartbeats 4000000 in
theorem indexM_any(A:Ad)(W:World)(jv mv ev:List Value)(s:Sc)(h:SW A W jv mv ev s)(hm:s.mail.length=A.l.length)(h8:A.l.length≤8):Calls Tryz.prog 153 #[.slice (some ⟨A.gM,0,none⟩) A.l.length A.l.length,.func (Fn.func 154) #[] #[]] W fun r w'=>r = .returned (.int .i64 (firstM s.mail 0))∧w'=W:=by
 have HS:Hid (SW A W jv mv ev s):=h
 have HM:Hid (s.mail.length=A.l.length):=hm
 obtain⟨z,hz⟩:∃z,firstM s.mail 0=z:=⟨_,rfl⟩
 have HZ:Hid (firstM s.mail 0=z):=hz
 have lg:=heap_lt h.mr
 rw[hz]
 clear h hm hz
 go_enter Tryz.func153,Tryz.ntmps153
 go_wp2_with fail
 go_loopw [8] (fun iv wr=>∃k:Nat,k≤A.l.length∧iv = .int .i64 (k:Int)∧wr=W∧Hid (firstM (s.mail.drop k) k=z)) (fun iv _=>A.l.length-(intOf iv).toNat)
 case atStart=>exact⟨0,Nat.zero_le _,rfl,rfl,HZ⟩
 case round =>
  obtain⟨k,hk,rfl,rfl,HK⟩:=hrel
  by_cases hkl:k<A.l.length
  ·obtain⟨v,hv⟩:∃v,mv[k]?=some v:=⟨_,List.getElem?_eq_getElem (by rw[HS.out.lm];exact hkl)⟩
   obtain⟨q,hq,hd⟩:=drop_at (l:=s.mail) (k:=k) (by rw[HM.out];exact hkl)
   have hl:=HS.out.lms k v hv
   rw[getD_some hq]at hl
   obtain⟨ad,c,rfl⟩:=hl.val
   have c0:=(HS.out.cM hv).2
   have hki:(k:Int)<(A.l.length:Int):=by omega
   have hkz:=HK.out
   rw[hd]at hkz
   unfold firstM at hkz
   have HKZ:Hid ((if q≠[] then ((k:Nat):Int) else firstM (s.mail.drop (k+1)) (k+1))=z):=hkz
   have HC:=lenC_any wr ad q.length c
   clear hv hq hd hl hkz HK
   rcases q with _|⟨p,r⟩
   ·have HN:Hid (firstM (s.mail.drop (k+1)) (k+1)=z):=by
     have h9:=HKZ.out
     rw[if_neg (by simp)]at h9
     exact h9
    simp only[List.length_nil,Nat.lt_irrefl,decide_false]at HC
    rw[List.length_nil]at c0
    clear HKZ
    go_wp2_with (go_at_call 154;refine HC.mono ?_;rintro r w5 ⟨rfl,hw5⟩;have hw6:=hw5.symm;subst hw6)
    exact⟨⟨k+1,by omega,by simp,by trivial,HN⟩,by simp[intOf];omega⟩
   ·have HN:Hid (((k:Nat):Int)=z):=by
     have h9:=HKZ.out
     rw[if_pos (by simp)]at h9
     exact h9
    have hd0:decide (0<(p::r).length)=true:=by simp
    rw[hd0]at HC
    generalize (p::r).length=qn at *
    clear HKZ hd0
    go_wp2_with (go_at_call 154;refine HC.mono ?_;rintro r w5 ⟨rfl,hw5⟩;have hw6:=hw5.symm;subst hw6)
    go_ret
    exact⟨by rw[HN.out];rfl,rfl⟩
  ·have hke:k=A.l.length:=by omega
   subst hke
   have hki:¬ ((A.l.length:Nat):Int)<(A.l.length:Int):=by omega
   have HN:Hid (z=-1):=by
    have h9:=HK.out
    rw[List.drop_of_length_le (by rw[HM.out];exact Nat.le_refl _)]at h9
    exact h9.symm
   go_wp2_with fail
   go_ret
   exact⟨by rw[HN.out];rfl,rfl⟩
end Go.Proofs.YtccoobcggbbcialGreatDoor
