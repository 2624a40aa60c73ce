import Derived.Test.YtccoobcggbbcialGreatDoorGHY1
import Derived.Shelf.SlGeneric
import Derived.Shelf.SlLaysF
import Derived.Shelf.SlSortCmp.Insertion1
import Derived.Ground.SlsfProg
import Derived.Sort.LotA
namespace Go.Proofs.YtccoobcggbbcialGreatDoor
open Go.ChangeShapes Go.WideShapes Go.ChangeAt Go.RowKit
theorem tqGHZ6{P:Program}{md:Region.Mode}{ops:Array Oper}{Q:Exit→Act→World→Prop}{S:World→Prop}{i n:Nat}{oi:Oper}{v:Value}{fuel:Nat}{listed:Array Bool}{l:List Value}{ds:List Deferred}{w:World}
  (hy:∀w,S w→(execOp (Act.eval ⟨l.toArray,ds⟩) oi).run P w = .ok (.value v) w) (h:wpAnyH P md ops Q S fuel (listed.setIfInBounds i true) ⟨(l.set n v).toArray,ds⟩ w)
  (hi:ops[i]?=some oi:=by rfl) (hd:oi.dst=some n:=by rfl) (hs:(Region.noSelect ops && Region.free md ops listed i && (Region.ready md ops listed).contains i)=true:=by kernel_rfl)
  (hQ:∀c a w,Q (.panic c) (a.put oi.dst v) w→Q (.panic c) a w:=by exact fun _ _ _ h=>h) (hg:Region.wanted oi (yielded ops l.toArray)=true:=by rfl) (hS:S w:=by assumption):wpAnyH P md ops Q S (fuel+1) listed ⟨l.toArray,ds⟩ w:=by
 simp only[Bool.and_eq_true]at hs
 exact take_at hi hd hs.1.1 hs.1.2 hs.2 hQ (.inl ⟨hg,hy⟩) hS h
end Go.Proofs.YtccoobcggbbcialGreatDoor
namespace Go.Proofs.YtccoobcggbbcialGreatDoor
open Go.ChangeShapes Go.WideShapes Go.ChangeAt Go.RowKit
theorem Play_ends{w:World}{g:Nat}{c k v:Value}{a:Act}(h:w.heap[g]?=some (.cells #[c,k] 33 (0,0)))(h2:a.tmps[8]?.getD undef=v)(h3:a.tmps[9]?.getD undef = .pointer (some ⟨g,0,none⟩)) :
  (results Tryz.f22 a.tmps).run Tryz.prog w = .ok (.tuple #[v,.agg #[c,k]]) w:=by
 obtain⟨c1,f1,l1⟩:=cells_of (l:=[_,_]) h
 have c10:=c1 0 _ rfl
 have c11:=c1 1 _ rfl
 simp[results,Tryz.results22,go_sem,h2,h3,c10,c11]
def InTimePost(W:World)(ord:List Nat)(r:Ending)(w':World):Prop:=∃g,r = .returned (.slice (some ⟨g,0,none⟩) ord.length ord.length)∧W.heap.size≤g∧w'.heap[g]?=some (.cells (ord.map fun k:Nat=>Value.int .i64 (k:Int)).toArray 3 (0,0))∧Below W.heap.size W w'
def WtV(g:Nat)(ord:List Nat)(v:Value)(ws:List Nat):Prop:=∃j ad c,v = .slice ad ws.length c∧ws=ord.drop j∧(ws=[]∨ad=some ⟨g,j,none⟩)∧ws.length≤c
theorem SW.frame{A:Ad}{W:World}{jv mv ev:List Value}{s:Sc}(h:SW A W jv mv ev s){W':World}(hb:Below W.heap.size W W'){g:Nat}{o:Obj}(hg:W.heap.size≤g)(ho:W'.heap[g]?=some o):SW { A with F:=(g,o)::A.F } W' jv mv ev s:=by
 have h1:=h.grow hb
 obtain⟨-,f2,-⟩:=h.fresh hg
 have l1:=heap_lt h.sc
 have l2:=heap_lt h.jr
 have l3:=heap_lt h.mr
 refine⟨h1.bel,h1.sc,h1.jr,h1.mr,h1.er,h1.bp,h1.bt,h1.lj,h1.lm,h1.le,h1.ljs,h1.lms,h1.ens,h1.aj,h1.am,h1.ax,h1.ea,h1.ne,h1.low,h1.lov,fun p hp=>?_,fun p hp=>?_⟩
 ·rcases List.mem_cons.1 hp with rfl|hp
  ·exact ho
  ·exact h1.fr p hp
 ·rcases List.mem_cons.1 hp with rfl|hp
  ·exact⟨by show g≠A.gs;omega,by show g≠A.gJ;omega,by show g≠A.gM;omega,fun v hv=>f2 v hv⟩
  ·exact h.far p hp
def PlayPost(w:World)(l:List Pa)(cs:List Co)(tk:List Int)(n:Int)(ord:List Nat)(r:Ending)(w':World):Prop :=
 ((chkPl l cs tk n).1≠0∧r = .returned (.tuple #[.slice none 0 0,.agg #[.int .i64 (chkPl l cs tk n).1,.int .i64 (chkPl l cs tk n).2]])∧Below w.heap.size w w') ∨
 ((chkPl l cs tk n).1=0∧∃(gE:Nat) (ev:List Value),r = .returned (.tuple #[.slice (some ⟨gE,0,none⟩) cs.length cs.length,.agg #[.int .i64 0,.int .i64 0]])∧w'.heap[gE]?=some (.cells ev.toArray 25 (0,0))∧ev.length=cs.length∧(∀(i:Nat) (v:Value),ev[i]?=some v→EnR w' v ((playTo l tk cs ord n.toNat).2.ends.getD i []))∧ev.Pairwise Apt∧(∀v∈ev,∀g:Nat,v.ownBlock=some g→w.heap.size≤g)∧Below w.heap.size w w')
theorem scene0_ok(l:List Pa)(m K:Nat):SOk l m K (scene0 l.length m):=by
 refine⟨by simp[scene0],by simp[scene0],by simp[scene0],fun i r hr=>?_,fun i q hq=>?_,fun i q hq=>?_,.inl rfl⟩
 ·have:=(List.mem_replicate.1 (List.mem_of_getElem? hr)).2
  rw[this];simp
 ·have:=(List.mem_replicate.1 (List.mem_of_getElem? hq)).2
  rw[this];exact⟨Nat.zero_le _,fun p hp=>by simp at hp⟩
 ·have:=(List.mem_replicate.1 (List.mem_of_getElem? hq)).2
  rw[this];exact⟨Nat.zero_le _,fun p hp=>by simp at hp⟩
def lenV:Value→Nat
 | .slice _ n _=>n
 | _=>0
def PlW(A:Ad)(W:World)(gW:Nat)(ord:List Nat)(v:Value)(ws:List Nat)(s:Sc)(ev:List Value):Prop:=WtV gW ord v ws∧∃jv mv,SW A W jv mv ev s
theorem playTo_ok{l:List Pa}{tk:List Int}{cs:List Co}{ord:List Nat}(hok:PsOk l)(hcs:∀(k:Nat) (c:Co),cs[k]?=some c→0≤c.k∧c.k<(l.length:Int)∧(l.getD c.k.toNat paZ).fr=-1∧0≤c.a∧c.a≤20000)(ho:∀k∈ord,k<cs.length):∀t,SOk l cs.length (ord.length-(playTo l tk cs ord t).1.length+40*t) (playTo l tk cs ord t).2∧(∀k∈(playTo l tk cs ord t).1,k<cs.length)∧(playTo l tk cs ord t).1.length≤ord.length
 | 0=>⟨scene0_ok _ _ _,ho,Nat.le_refl _⟩
 | t+1=>by
  obtain⟨h1,h2,h3⟩:=playTo_ok (tk:=tk) hok hcs ho t
  obtain⟨g1,g2,g3⟩:=comeF_ok (tk:=tk) (now:=(t:Int)) (cs:=cs) hok (fun k hk=>by
   have:=hcs k _ (some_getD (d:=⟨0,0⟩) hk)
   omega) rfl (playTo l tk cs ord t).1 _ _ h1 h2
  refine⟨(tickF_ok (now:=(t:Int)) g1 hok).mono ?_,g2,by show(comeF l tk cs t (playTo l tk cs ord t).1 (playTo l tk cs ord t).2).1.length≤_;omega⟩
  show _≤ord.length-(comeF l tk cs t (playTo l tk cs ord t).1 (playTo l tk cs ord t).2).1.length+40*(t+1)
  omega
theorem firstNeg_all{tk:List Int}(h:¬ 0≤firstNeg tk 0):∀z∈tk,0≤z:=fun z hz=>by
 by_cases e:0≤z
 ·exact e
 ·exact absurd ((firstNeg_ge tk 0).2 ⟨z,hz,by omega⟩) h
theorem chkC_ok{l:List Pa}:∀(cs:List Co) (i:Nat),(chkC l cs i).1=0→∀(k:Nat) (c:Co),cs[k]?=some c→0≤c.k∧c.k<(l.length:Int)∧(l.getD c.k.toNat paZ).fr=-1∧0≤c.a∧c.a≤20000
 | [],_,_,k,c,hc=>by simp at hc
 | x::r,i,h,k,c,hc=>by
  unfold chkC at h
  by_cases h1:within x.k 0 ((l.length:Int)-1)=false∨(l.getD x.k.toNat paZ).fr≠-1
  ·rw[if_pos h1]at h;cases h
  rw[if_neg h1]at h
  by_cases h2:within x.a 0 20000=false
  ·rw[if_pos h2]at h;cases h
  rw[if_neg h2]at h
  cases k with
  | zero =>
   cases hc
   rw[not_or]at h1
   obtain⟨h3,h4⟩:=h1
   simp only[within,Bool.not_eq_false,Bool.and_eq_true,decide_eq_true_eq]at h2 h3
   exact⟨h3.1,by omega,by simpa using h4,h2.1,h2.2⟩
  | succ k=>exact chkC_ok r (i+1) h k c (by simpa using hc)
theorem chkPl_ok{l:List Pa}{cs:List Co}{tk:List Int}{n:Int}(h:(chkPl l cs tk n).1=0):PsOk l∧cs.length≤4000∧0≤n∧n≤20000∧(∀z∈tk,0≤z)∧(∀(k:Nat) (c:Co),cs[k]?=some c→0≤c.k∧c.k<(l.length:Int)∧(l.getD c.k.toNat paZ).fr=-1∧0≤c.a∧c.a≤20000)∧chkPl l cs tk n=(0,0):=by
 have h0:=h
 unfold chkPl at h
 by_cases h1:(chkP l).1≠0
 ·rw[if_pos h1]at h;exact absurd h h1
 rw[if_neg h1]at h
 by_cases h2:4000<cs.length
 ·rw[if_pos h2]at h;cases h
 rw[if_neg h2]at h
 by_cases h3:within n 0 20000=false∨0≤firstNeg tk 0
 ·rw[if_pos h3]at h;cases h
 rw[if_neg h3]at h
 rw[not_or]at h3
 obtain⟨h4,h5⟩:=h3
 simp only[within,Bool.not_eq_false,Bool.and_eq_true,decide_eq_true_eq]at h4
 have hz:∀(cs:List Co) (i:Nat),(chkC l cs i).1=0→chkC l cs i=(0,0):=by
  intro cs
  induction cs with
  | nil=>intro i _;rfl
  | cons x r ih =>
   intro i h
   unfold chkC at h ⊢
   split at h
   ·cases h
   ·next g1 =>
    rw[if_neg g1]
    split at h
    ·cases h
    ·next g2 =>
     rw[if_neg g2]
     exact ih _ h
 refine⟨chkP_ok (by simpa using h1),by omega,h4.1,h4.2,firstNeg_all h5,chkC_ok cs 0 h,?_⟩
 unfold chkPl
 rw[if_neg h1,if_neg h2,if_neg (by rw[not_or];exact⟨by simp[within];omega,h5⟩)]
 exact hz cs 0 h
set_option maxRecDepth 20000 in
set_option maxHeartbeats 8000000 in
theorem Play_any(w:World)(l:List Pa)(cs:List Co)(tk:List Int)(n:Int)(pv cv tv:Value)(ord:List Nat)(hp:RowSl Pa.vals w l pv)(hc:RowSl Co.vals w cs cv)(ht:RowSl nuV w tk tv)(hcl:cs.length≤1000000)(htl:tk.length≤1000000)(ho:ord.length=cs.length)(hom:∀k∈ord,k<cs.length)(hIT:∀W,Below w.heap.size w W→Calls Tryz.prog 56 #[cv] W (InTimePost W ord)):Calls Tryz.prog 22 #[pv,cv,tv,.int .i64 n] w (PlayPost w l cs tk n ord):=by
 have HC:=checkPlay_any (w.alloc (.cells #[.int .i64 0,.int .i64 0] 33)) l cs tk n pv cv tv (hp.below (below_new _ _)) (hc.below (below_new _ _)) (ht.below (below_new _ _)) hcl htl
 obtain⟨z1,z2,hz⟩:∃z1 z2,chkPl l cs tk n=(z1,z2):=⟨_,_,rfl⟩
 have HZ:Hid (chkPl l cs tk n=(z1,z2)):=hz
 rw[hz]at HC
 dsimp only at HC
 have HR:Hid (RowSl Pa.vals w l pv∧RowSl Co.vals w cs cv∧RowSl nuV w tk tv):=⟨hp,hc,ht⟩
 have HIT:Hid (∀W,Below w.heap.size w W→Calls Tryz.prog 56 #[cv] W (InTimePost W ord)):=hIT
 have HO:Hid (ord.length=cs.length∧∀k∈ord,k<cs.length):=⟨ho,hom⟩
 obtain⟨pad,pc,rfl⟩:=hp.len
 obtain⟨cad,cc,rfl⟩:=hc.len
 obtain⟨tad,tc,rfl⟩:=ht.len
 have hF:Hid (FB w (w.alloc (.cells #[.int .i64 0,.int .i64 0] 33)) w.heap.size):=FB.start w
 clear hp hc ht hz hIT ho hom
 go_enter Tryz.func22,Tryz.ntmps22
 go_upto_region 2 with (go_at_call 53;refine HC.mono ?_;rintro r w1 ⟨rfl,hb1⟩;have H1:Hid (FB w (w1.alloc (.cells #[.int .i64 z1,.int .i64 z2] 33)) w.heap.size):=(hF.out.grow hb1).grow (below_new _ _);have hl1:w.heap.size<w1.heap.size:=(hF.out.grow hb1).lt;clear hb1 HC)
 obtain⟨fs,-,fl⟩:=cells_of (l:=[_,_]) (heap_alloc_new w1 (.cells #[.int .i64 z1,.int .i64 z2] 33))
 have g0:=fs 0 _ rfl
 have g1:=fs 1 _ rfl
 clear fs hF
 generalize w1.alloc (.cells #[.int .i64 z1,.int .i64 z2] 33)=w2 at *
 generalize w1.heap.size=gf at *
 obtain⟨q0,q1,qf0,qf1,ql⟩:=H1.out.res2
 by_cases h0:z1=0
 rotate_left 1
 ·have hz1:(z1 != 0)=true:=by simpa using h0
  have HN:Hid (z1≠0):=h0
  clear h0
  go_wp2_with fail
  go_region
  all_goals go_wp2_with fail
  all_goals
   refine bodyPost_ret (Play_ends (g:=w.heap.size) (c:=.int .i64 z1) (k:=.int .i64 z2) (v:=.slice none 0 0) (set_two H1.out.res) rfl rfl) rfl ?_
   refine Or.inl ⟨by rw[HZ.out];exact HN.out,by rw[HZ.out],(H1.out.set _ _).drew⟩
 subst h0
 obtain⟨hok,hm4,hn0,hn1,htk,hcs,hzz⟩:=chkPl_ok (l:=l) (cs:=cs) (tk:=tk) (n:=n) (by rw[HZ.out])
 have h1:=hok.one
 have h8:=hok.most
 have HOK:Hid (PsOk l∧(∀z∈tk,0≤z)∧(∀(k:Nat) (c:Co),cs[k]?=some c→0≤c.k∧c.k<(l.length:Int)∧(l.getD c.k.toNat paZ).fr=-1∧0≤c.a∧c.a≤20000)):=⟨hok,htk,hcs⟩
 obtain⟨nn,rfl⟩:∃nn:Nat,n=(nn:Int):=⟨n.toNat,by omega⟩
 have HN4:=newScene_any w ((w2.alloc (.cells #[.slice pad l.length pc] 61)).alloc (.cells #[.slice tad tk.length tc] 25)) l tk (.slice pad l.length pc) (.slice tad tk.length tc) w2.heap.size (w2.heap.size+1) cs.length [(w.heap.size,.cells #[.int .i64 0,.int .i64 0] 33 (0,0))] (by
  have b1:=below_seq (below_new w2 (.cells #[.slice pad l.length pc] 61)) (below_new (w2.alloc (.cells #[.slice pad l.length pc] 61)) (.cells #[.slice tad tk.length tc] 25))
  refine⟨below_seq H1.out.bel b1,?_,?_,fun p hp=>?_⟩
  ·rw[Below.heap_alloc _ _ _ (by simp)];exact heap_alloc_new _ _
  ·have:=heap_alloc_new (w2.alloc (.cells #[.slice pad l.length pc] 61)) (.cells #[.slice tad tk.length tc] 25);simpa using this
  ·rw[List.mem_singleton.1 hp]
   exact(b1.block _ H1.out.lt).trans H1.out.res) HR.out.1 h8 hm4
 clear hok htk hcs hzz
 go_upto_region 5 with (first
  | (go_at_call 54;refine HN4.mono ?_;rintro r w4 ⟨gs,gJ,gM,gE,jv,mv,ev,rfl,h4⟩;have H4:Hid (SW ⟨w,gs,gJ,gM,gE,w2.heap.size,w2.heap.size+1,.slice pad l.length pc,.slice tad tk.length tc,l,tk,cs.length,[(w.heap.size,.cells #[.int .i64 0,.int .i64 0] 33 (0,0))]⟩ w4 jv mv ev (scene0 l.length cs.length)):=h4;clear h4 HN4)
  | (go_at_call 55;refine(works_any _ _ _ _ _ _ _).mono ?_;rintro r w3 ⟨rfl,hw3⟩;have hw4:=hw3;subst hw4;clear hw3))
 go_upto_region 6 with (go_at_call 56;refine(HIT.out w4 H4.out.bel).mono ?_;rintro r w5 ⟨gW,rfl,hg5,hr5,hb5⟩;have H5:Hid (SW ⟨w,gs,gJ,gM,gE,w2.heap.size,w2.heap.size+1,.slice pad l.length pc,.slice tad tk.length tc,l,tk,cs.length,[(gW,.cells (ord.map fun k:Nat=>Value.int .i64 (k:Int)).toArray 3 (0,0)),(w.heap.size,.cells #[.int .i64 0,.int .i64 0] 33 (0,0))]⟩ w5 jv mv ev (scene0 l.length cs.length)):=H4.out.frame hb5 hg5 hr5;clear hg5 hr5 hb5)
 clear H4 HIT
 generalize w2.heap.size+1=gt at *
 generalize w2.heap.size=gp at *
 have HI:Hid (Inp ⟨w,gs,gJ,gM,gE,gp,gt,.slice pad l.length pc,.slice tad tk.length tc,l,tk,cs.length,[(gW,.cells (ord.map fun k:Nat=>Value.int .i64 (k:Int)).toArray 3 (0,0)),(w.heap.size,.cells #[.int .i64 0,.int .i64 0] 33 (0,0))]⟩):=⟨HOK.out.1,HR.out.1,HR.out.2.2,HOK.out.2.1,htl,hm4⟩
 have HS0:Hid (SOk l cs.length 4000 (scene0 l.length cs.length)):=scene0_ok l cs.length 4000
 have HW0:Hid (∃ws s jv' mv' v,playTo l tk cs ord 0=(ws,s)∧WtV gW ord v ws∧v = .slice (some ⟨gW,0,none⟩) ord.length ord.length∧SW ⟨w,gs,gJ,gM,gE,gp,gt,.slice pad l.length pc,.slice tad tk.length tc,l,tk,cs.length,[(gW,.cells (ord.map fun k:Nat=>Value.int .i64 (k:Int)).toArray 3 (0,0)),(w.heap.size,.cells #[.int .i64 0,.int .i64 0] 33 (0,0))]⟩ w5 jv' mv' ev s):=⟨ord,_,jv,mv,_,rfl,⟨0,_,_,rfl,rfl,.inr rfl,Nat.le_refl _⟩,rfl,H5.out⟩
 clear g0 g1 q0 q1 qf0 qf1 ql fl hl1
 go_wp2_with fail
 go_loopw [12,33] (fun v iv wr=>∃t:Nat,t≤nn∧iv = .int .i64 (t:Int)∧Hid (PlW ⟨w,gs,gJ,gM,gE,gp,gt,.slice pad l.length pc,.slice tad tk.length tc,l,tk,cs.length,[(gW,.cells (ord.map fun k:Nat=>Value.int .i64 (k:Int)).toArray 3 (0,0)),(w.heap.size,.cells #[.int .i64 0,.int .i64 0] 33 (0,0))]⟩ wr gW ord v (playTo l tk cs ord t).1 (playTo l tk cs ord t).2 ev)) (fun _ iv _=>nn-(intOf iv).toNat)
 case atStart=>exact⟨0,Nat.zero_le _,rfl,⟨⟨0,_,_,rfl,rfl,.inr rfl,Nat.le_refl _⟩,jv,mv,H5.out⟩⟩
 case round =>
  obtain⟨t,ht,rfl,HX⟩:=hrel
  generalize wr=wR at *
  clear H5 HW0
  have HPO:Hid (SOk l cs.length (ord.length-(playTo l tk cs ord t).1.length+40*t) (playTo l tk cs ord t).2∧(∀k∈(playTo l tk cs ord t).1,k<cs.length)∧(playTo l tk cs ord t).1.length≤ord.length):=playTo_ok HOK.out.1 HOK.out.2.2 HO.out.2 t
  by_cases htn:t<nn
  rotate_left 1
  ·have hte:t=nn:=by omega
   subst hte
   have hti:¬ ((t:Nat):Int)<(t:Int):=by omega
   obtain⟨-,jv',mv',hS⟩:=HX.out
   have HS:Hid (SW ⟨w,gs,gJ,gM,gE,gp,gt,.slice pad l.length pc,.slice tad tk.length tc,l,tk,cs.length,[(gW,.cells (ord.map fun k:Nat=>Value.int .i64 (k:Int)).toArray 3 (0,0)),(w.heap.size,.cells #[.int .i64 0,.int .i64 0] 33 (0,0))]⟩ wR jv' mv' ev (playTo l tk cs ord t).2):=hS
   obtain⟨ss,-,sl⟩:=cells_of (l:=[_,_,_,_,_,_]) hS.sc
   have c5:=ss 5 _ rfl
   have hfr:=hS.fr (w.heap.size,.cells #[.int .i64 0,.int .i64 0] 33 (0,0)) (by simp)
   have HFR:Hid (wR.heap[w.heap.size]?=some (.cells #[.int .i64 0,.int .i64 0] 33 (0,0))):=hfr
   obtain⟨rs,rf,rl⟩:=cells_of (l:=[_,_]) hfr
   have r0:=rs 0 _ rfl
   have r1:=rs 1 _ rfl
   have e0:=rf 0
   have e1:=rf 1
   have gne:gs≠w.heap.size:=ty_ne hS.sc hfr (by decide)
   dsimp only at c5 sl
   clear hS HX ss rs rf hfr
   go_wp2_with fail
   refine bodyPost_ret (Play_ends (g:=w.heap.size) (c:=.int .i64 0) (k:=.int .i64 0) (v:=.slice (some ⟨gE,0,none⟩) cs.length cs.length) (set_two HFR.out) rfl rfl) rfl ?_
   have keep:∀ {g:Nat} {o:Obj},g≠w.heap.size→wR.heap[g]?=some o→((wR.setCell ⟨w.heap.size,0,none⟩ (.int .i64 0)).setCell ⟨w.heap.size,1,none⟩ (.int .i64 0)).heap[g]?=some o:=fun hg ho=>by
    rw[Below.heap_setCell _ _ _ _ hg,Below.heap_setCell _ _ _ _ hg];exact ho
   have hfar:=(HS.out.far (w.heap.size,.cells #[.int .i64 0,.int .i64 0] 33 (0,0)) (by simp)).2.2.2
   refine Or.inr ⟨by rw[HZ.out],gE,ev,rfl,keep (ty_ne HS.out.er HFR.out (by decide)) HS.out.er,HS.out.le,fun i v hv=>?_,HS.out.ea,fun v hv g hg=>HS.out.lov v (List.mem_append_right _ hv) g hg,(HS.out.bel.setCell (Nat.le_refl _) _).setCell (Nat.le_refl _) _⟩
   rw[Int.toNat_natCast]
   refine(HS.out.ens i v hv).keep fun g hg=>?_
   have hgn:g≠w.heap.size:=fun e=>hfar v (List.mem_append_right _ (List.mem_of_getElem? hv)) (by rw[hg,e])
   rw[Below.heap_setCell _ _ _ _ hgn,Below.heap_setCell _ _ _ _ hgn]
  have hti:(t:Int)<(nn:Int):=by omega
  obtain⟨ws0,s0,hws0⟩:∃ws s,playTo l tk cs ord t=(ws,s):=⟨_,_,rfl⟩
  rw[hws0]at HPO HX
  dsimp only at HPO HX
  have HPT:Hid (playTo l tk cs ord (t+1)=((comeF l tk cs t ws0 s0).1,tickF l tk (comeF l tk cs t ws0 s0).2 t)):=by
   show _=_
   rw[show playTo l tk cs ord (t+1)=((comeF l tk cs t (playTo l tk cs ord t).1 (playTo l tk cs ord t).2).1,tickF l tk (comeF l tk cs t (playTo l tk cs ord t).1 (playTo l tk cs ord t).2).2 t) from rfl,hws0]
  have HK0:Hid (ord.length-ws0.length+40*t+ws0.length≤4000+40*t∧t≤20000):=(⟨by have h1:=HPO.out.2.2;have h2:=HO.out.1;omega,by omega⟩:ord.length-ws0.length+40*t+ws0.length≤4000+40*t∧t≤20000)
  clear hws0
  go_wp2_with fail
  go_loopw [12] (fun v wr=>∃(ws:List Nat) (s:Sc) (K:Nat),Hid (PlW ⟨w,gs,gJ,gM,gE,gp,gt,.slice pad l.length pc,.slice tad tk.length tc,l,tk,cs.length,[(gW,.cells (ord.map fun k:Nat=>Value.int .i64 (k:Int)).toArray 3 (0,0)),(w.heap.size,.cells #[.int .i64 0,.int .i64 0] 33 (0,0))]⟩ wr gW ord v ws s ev∧SOk l cs.length K s∧K+ws.length≤4000+40*t∧(∀k∈ws,k<cs.length)∧comeF l tk cs t ws s=comeF l tk cs t ws0 s0)) (fun v _=>lenV v)
  case atStart=>exact⟨ws0,s0,_,⟨HX.out,HPO.out.1,HK0.out.1,HPO.out.2.1,rfl⟩⟩
  case round =>
   obtain⟨ws,s,K,HY⟩:=hrel
   generalize wr=wI at *
   clear HX
   obtain⟨⟨⟨j,ad,c,rfl,hwsj,had,hcap⟩,jv',mv',hS⟩,hSO,hKw,hwk,hcome⟩:=HY.out
   have ht9:=HK0.out.2
   have HTk:=tick_any ⟨w,gs,gJ,gM,gE,gp,gt,.slice pad l.length pc,.slice tad tk.length tc,l,tk,cs.length,[(gW,.cells (ord.map fun k:Nat=>Value.int .i64 (k:Int)).toArray 3 (0,0)),(w.heap.size,.cells #[.int .i64 0,.int .i64 0] 33 (0,0))]⟩ wI jv' mv' ev s K t HI.out hSO hS (by omega) (by omega) (by omega)
   dsimp only at HTk
   rcases ws with _|⟨k,r⟩
   ·have HE:Hid (playTo l tk cs ord (t+1)=([],tickF l tk s t)):=by
     show _=_
     rw[HPT.out,← hcome]
     rfl
    have HWT:Hid (WtV gW ord (.slice ad ([]:List Nat).length c) []):=⟨j,ad,c,rfl,hwsj,had,hcap⟩
    simp only[List.length_nil]at HWT ⊢
    clear HY hwsj had hS hSO hKw hwk hcome
    go_wp2_with (go_at_call 58;refine HTk.mono ?_;rintro r w6 ⟨rfl,jv6,mv6,h6⟩;have H6:Hid (PlW ⟨w,gs,gJ,gM,gE,gp,gt,.slice pad l.length pc,.slice tad tk.length tc,l,tk,cs.length,[(gW,.cells (ord.map fun k:Nat=>Value.int .i64 (k:Int)).toArray 3 (0,0)),(w.heap.size,.cells #[.int .i64 0,.int .i64 0] 33 (0,0))]⟩ w6 gW ord (.slice ad 0 c) [] (tickF l tk s t) ev):=⟨HWT.out,jv6,mv6,h6⟩;clear h6 HTk)
    exact⟨⟨t+1,by omega,by simp,(by rw[HE.out];exact H6.out)⟩,by simp[intOf];omega⟩
   ·rcases had with had|rfl
    ·cases had
    have hjl:ord[j]?=some k:=by
     have h9:=congrArg (fun x:List Nat=>x[0]?) hwsj
     simpa using h9.symm
    have hrj:r=ord.drop (j+1):=by
     have h9:=congrArg List.tail hwsj
     simpa[List.tail_drop] using h9
    have hkm:=hwk k List.mem_cons_self
    obtain⟨x,hx⟩:∃x,cs[k]?=some x:=⟨_,List.getElem?_eq_getElem hkm⟩
    have hxo:=HOK.out.2.2 k x hx
    obtain⟨cad',cc',ce,-,hcc,hcrow⟩:=HR.out.2.1
    cases ce
    rcases hcrow with h9|⟨cb,co,rfl,hcrow⟩
    ·rw[h9]at hkm;simp at hkm
    obtain⟨y0,y1⟩:=co_at (fun q u hq=>below_cell hS.bel (hcrow q u hq)) hx
    have yw:=(co_at (fun q u hq=>hcrow q u hq) hx).1
    have hfw:=hS.fr (gW,.cells (ord.map fun k:Nat=>Value.int .i64 (k:Int)).toArray 3 (0,0)) (by simp)
    have cw:=(cells_of hfw).1 j (.int .i64 (k:Int)) (by rw[List.getElem?_map,hjl];rfl)
    have lgW:=heap_lt hfw
    have lcb:=World.block_lt_of_cell? _ _ y0
    dsimp only at lgW lcb
    have hki:(k:Int)<(cs.length:Int):=by omega
    have hxd:cs.getD k ⟨0,0⟩=x:=getD_some hx
    have hcm2:comeF l tk cs t (k::r) s=if x.a=(t:Int) then comeF l tk cs t r (addJ l tk s x.k.toNat k t) else (k::r,s):=by
     rw[comeF,hxd]
    obtain⟨kn,hkn⟩:∃kn:Nat,x.k=(kn:Int):=⟨x.k.toNat,by omega⟩
    have hknl:kn<l.length:=by omega
    obtain⟨ck,ca⟩:=x
    dsimp only at y0 y1 hkn hcm2 yw
    subst hkn
    rw[Int.toNat_natCast]at hcm2
    have HWT:Hid (WtV gW ord (.slice (some ⟨gW,j,none⟩) (k::r).length c) (k::r)):=⟨j,_,c,rfl,hwsj,.inr rfl,hcap⟩
    have HCM:Hid (comeF l tk cs t (k::r) s=comeF l tk cs t ws0 s0):=hcome
    have hl0:(0:Int)<(((k::r).length:Nat):Int):=by rw[List.length_cons];omega
    have hr2:1≤c:=by rw[List.length_cons]at hcap;omega
    by_cases hat:ca=(t:Int)
    rotate_left 1
    ·have hab:(ca == (t:Int))=false:=by simpa using hat
     have HE:Hid (playTo l tk cs ord (t+1)=(k::r,tickF l tk s t)):=by
      show _=_
      rw[HPT.out,← HCM.out,hcm2,if_neg hat]
     clear HY hwsj hS hSO hKw hwk hcome hcm2 hxo hxd hx hrj hjl hfw hcrow hat
     generalize (k::r).length=qn at *
     go_wp2_with (go_at_call 58;refine HTk.mono ?_;rintro r9 w6 ⟨rfl,jv6,mv6,h6⟩;have H6:Hid (PlW ⟨w,gs,gJ,gM,gE,gp,gt,.slice pad l.length pc,.slice tad tk.length tc,l,tk,cs.length,[(gW,.cells (ord.map fun k:Nat=>Value.int .i64 (k:Int)).toArray 3 (0,0)),(w.heap.size,.cells #[.int .i64 0,.int .i64 0] 33 (0,0))]⟩ w6 gW ord (.slice (some ⟨gW,j,none⟩) qn c) (k::r) (tickF l tk s t) ev):=⟨HWT.out,jv6,mv6,h6⟩;clear h6 HTk)
     exact⟨⟨t+1,by omega,by simp,(by rw[HE.out];exact H6.out)⟩,by simp[intOf];omega⟩
    ·subst hat
     have hab:((t:Int) == (t:Int))=true:=by simp
     have HJL:Hid (ord[j]?=some k):=hjl
     have HYW:Hid (w.cell? ⟨cb,co+k*2,none⟩=some (.int .i64 (kn:Int))):=yw
     have HAJ':=addJ_any ⟨w,gs,gJ,gM,gE,gp,gt,.slice pad l.length pc,.slice tad tk.length tc,l,tk,cs.length,[(gW,.cells (ord.map fun k:Nat=>Value.int .i64 (k:Int)).toArray 3 (0,0)),(w.heap.size,.cells #[.int .i64 0,.int .i64 0] 33 (0,0))]⟩ wI.drew jv' mv' ev s kn k K t HI.out hSO (hS.grow (Below.refl _ _).drew) hknl hkm (by omega)
     dsimp only at HAJ'
     have HNX:Hid (SOk l cs.length (K+1) (addJ l tk s kn k t)∧K+1+r.length≤4000+40*t∧(∀k∈r,k<cs.length)∧comeF l tk cs t r (addJ l tk s kn k t)=comeF l tk cs t ws0 s0):=by
      refine⟨hSO.addJ HOK.out.1 hknl hkm,by rw[List.length_cons]at hKw;omega,fun q hq=>hwk q (List.mem_cons_of_mem _ hq),?_⟩
      rw[← HCM.out,hcm2,if_pos rfl]
     have HWN:Hid (WtV gW ord (.slice (if c=1 then some ⟨gW,j,none⟩ else some ⟨gW,j+1,none⟩) r.length (c-1)) r):=by
      rw[List.length_cons]at hcap
      by_cases e:c=1
      ·have:r=[]:=List.eq_nil_of_length_eq_zero (by omega)
       subst this
       exact⟨j+1,_,_,rfl,hrj,.inl rfl,by simp⟩
      ·rw[if_neg e]
       exact⟨j+1,_,_,rfl,hrj,.inr rfl,by omega⟩
     have hr1:(1:Int)≤((r.length+1:Nat):Int):=by omega
     have hr4:(1:Int)≤(r.length:Int)+1:=by omega
     have hr5:(0:Int)<(r.length:Int)+1:=by omega
     have hr3:1≤r.length+1:=by omega
     have hr6:(0:Int)<((r.length+1:Nat):Int):=by omega
     clear HY hwsj hS hSO hKw hwk hcome hcm2 hxo hxd hx hrj hjl hfw hcrow HTk hl0 yw HWT
     simp only[List.length_cons]at hcap ⊢
     go_upto_region 11 with fail
     refine wp_region_noPanic ?_
     refine wp_region_held_drew (S:=fun w'=>w'.cell? ⟨gW,j,none⟩=some (.int .i64 (k:Int))∧w'.cell? ⟨cb,co+k*2,none⟩=some (.int .i64 (kn:Int))) (by kernel_rfl) ⟨cw,y0⟩ (fun hHeld=>?_)
     refine tqGHZ6 (i:=0) (n:=52) (v:=?_) ?_ ?_
     rotate_left 1
     ·intro wz hSw
      obtain⟨s0,s1⟩:=hSw
      first|(go_simp;done)|(go_simp;with_reducible rfl)
     simp only[ls0,ls1]
     refine tqGHZ6 (i:=1) (n:=53) (v:=?_) ?_ ?_
     rotate_left 1
     ·intro wz hSw
      obtain⟨s0,s1⟩:=hSw
      first|(go_simp;done)|(go_simp;with_reducible rfl)
     simp only[ls0,ls1]
     refine tqGHZ6 (i:=2) (n:=54) (v:=?_) ?_ ?_
     rotate_left 1
     ·intro wz hSw
      obtain⟨s0,s1⟩:=hSw
      first|(go_simp;done)|(go_simp;with_reducible rfl)
     simp only[ls0,ls1]
     refine tqGHZ6 (i:=3) (n:=55) (v:=?_) ?_ ?_
     rotate_left 1
     ·intro wz hSw
      obtain⟨s0,s1⟩:=hSw
      first|(go_simp;done)|(go_simp;with_reducible rfl)
     simp only[ls0,ls1]
     refine tqGHZ6 (i:=4) (n:=56) (v:=?_) ?_ ?_
     rotate_left 1
     ·intro wz hSw
      obtain⟨s0,s1⟩:=hSw
      first|(go_simp;done)|(go_simp;with_reducible rfl)
     simp only[ls0,ls1]
     refine tqGHZ6 (i:=5) (n:=57) (v:=?_) ?_ ?_
     rotate_left 1
     ·intro wz hSw
      obtain⟨s0,s1⟩:=hSw
      first|(go_simp;done)|(go_simp;with_reducible rfl)
     simp only[ls0,ls1]
     refine tqGHZ6 (i:=6) (n:=58) (v:=?_) ?_ ?_
     rotate_left 1
     ·intro wz hSw
      obtain⟨s0,s1⟩:=hSw
      first|(go_simp;done)|(go_simp;with_reducible rfl)
     simp only[ls0,ls1]
     refine tqGHZ6 (i:=7) (n:=59) (v:=?_) ?_ ?_
     rotate_left 1
     ·intro wz hSw
      obtain⟨s0,s1⟩:=hSw
      first|(go_simp;done)|(go_simp;with_reducible rfl)
     simp only[ls0,ls1]
     refine tqGHZ6 (i:=8) (n:=60) (v:=?_) ?_ ?_
     rotate_left 1
     ·intro wz hSw
      obtain⟨s0,s1⟩:=hSw
      first|(go_simp;done)|(go_simp;with_reducible rfl)
     simp only[ls0,ls1]
     refine tqGHZ6 (i:=9) (n:=61) (v:=?_) ?_ ?_
     rotate_left 1
     ·intro wz hSw
      obtain⟨s0,s1⟩:=hSw
      first|(go_simp;done)|(go_simp;with_reducible rfl)
     simp only[ls0,ls1]
     refine tqGHZ6 (i:=10) (n:=62) (v:=?_) ?_ ?_
     rotate_left 1
     ·intro wz hSw
      obtain⟨s0,s1⟩:=hSw
      first|(go_simp;done)|(go_simp;with_reducible rfl)
     simp only[ls0,ls1]
     refine tqGHZ6 (i:=11) (n:=63) (v:=?_) ?_ ?_
     rotate_left 1
     ·intro wz hSw
      obtain⟨s0,s1⟩:=hSw
      first|(go_simp;done)|(go_simp;with_reducible rfl)
     simp only[ls0,ls1]
     refine wpAnyH_ready (rs:=[12]) (by kernel_rfl) (by simp) ?_
     refine AllReadyH.cons rfl (fun K hK=>?_) AllReadyH.nil
     go_simp
     go_wp2_with (go_at_call 57;refine HAJ'.mono ?_;rintro r9 w6 ⟨rfl,jv6,h6⟩)
     have H6:Hid (∃jv mv,SW ⟨w,gs,gJ,gM,gE,gp,gt,.slice pad l.length pc,.slice tad tk.length tc,l,tk,cs.length,[(gW,.cells (ord.map fun k:Nat=>Value.int .i64 (k:Int)).toArray 3 (0,0)),(w.heap.size,.cells #[.int .i64 0,.int .i64 0] 33 (0,0))]⟩ w6 jv mv ev (addJ l tk s kn k t)):=⟨jv6,mv',h6⟩
     refine hK.out _ _ ⟨(cells_of (h6.fr (gW,.cells (ord.map fun k:Nat=>Value.int .i64 (k:Int)).toArray 3 (0,0)) (by simp))).1 j _ (by rw[List.getElem?_map,HJL.out];rfl),below_cell h6.bel HYW.out⟩ (fun hHeld=>?_)
     clear h6
     clear hK K
     try simp only[ls0,ls1]
     refine wpAnyH_done (by kernel_rfl) ?_ _
     refine NoPanic.normal ?_
     clear hHeld
     go_wp2_with fail
     exact⟨⟨r,addJ l tk s kn k t,K+1,⟨⟨HWN.out,H6.out⟩,HNX.out⟩⟩,by simp[lenV]⟩
def cmpI(x y:Int):Int:=if x<y then -1 else if y<x then 1 else 0
theorem isNaN_any(w:World)(x:Int):Calls Tryz.prog 151 #[.int .i64 x] w fun r w'=>r = .returned (.bool false)∧w'=w:=by
 go_enter Tryz.func151,Tryz.ntmps151
 go_wp2
 go_ret
 exact⟨by simp,rfl⟩
set_option maxRecDepth 20000 in
theorem Compare_any(w:World)(x y:Int):Calls Tryz.prog 99 #[.int .i64 x,.int .i64 y] w fun r w'=>r = .returned (.int .i64 (cmpI x y))∧w'=w:=by
 unfold cmpI
 by_cases h:x<y
 ·rw[if_pos h]
  go_enter Tryz.func99,Tryz.ntmps99
  go_wp2_with (go_at_call 151;refine(isNaN_any _ _).mono ?_;rintro r w1 ⟨rfl,rfl⟩)
  go_ret
  exact⟨rfl,rfl⟩
 ·rw[if_neg h]
  by_cases h2:y<x
  ·rw[if_pos h2]
   go_enter Tryz.func99,Tryz.ntmps99
   go_wp2_with (go_at_call 151;refine(isNaN_any _ _).mono ?_;rintro r w1 ⟨rfl,rfl⟩)
   go_ret
   exact⟨rfl,rfl⟩
  ·rw[if_neg h2]
   go_enter Tryz.func99,Tryz.ntmps99
   go_wp2_with (go_at_call 151;refine(isNaN_any _ _).mono ?_;rintro r w1 ⟨rfl,rfl⟩)
   go_ret
   exact⟨rfl,rfl⟩
def Ck(l:List Co)(k:Nat):Co:=l.getD k ⟨0,0⟩
theorem Ck_get{l:List Co}{k:Nat}(h:k<l.length):l[k]?=some (Ck l k):=by
 unfold Ck
 rw[List.getD_eq_getElem?_getD,List.getElem?_eq_getElem h]
 rfl
set_option maxRecDepth 20000 in
set_option maxHeartbeats 4000000 in
theorem byAt_any(w:World)(l:List Co)(v:Value)(bS i k:Nat)(hi:i<l.length)(hk:k<l.length)(hv:RowSl Co.vals w l v)(h2:w.cell? ⟨bS,0,none⟩=some v) :
  Calls Tryz.prog 98 #[.int .i64 (i:Int),.int .i64 (k:Int),.pointer (some ⟨bS,0,none⟩)] w fun r w'=>r = .returned (.int .i64 (cmpI (Ck l i).a (Ck l k).a))∧∃q,w'=w.drewN q:=by
 obtain⟨ad,c,rfl,-,hcap,hrow⟩:=hv
 rcases hrow with h|⟨b,o,rfl,hrow⟩
 ·rw[h]at hi;simp at hi
 have ca:=co_at hrow (Ck_get hi)
 have cb:=co_at hrow (Ck_get hk)
 have hi':(i:Int)<(l.length:Int):=by omega
 have hk':(k:Int)<(l.length:Int):=by omega
 clear hrow
 generalize Ck l i=xa at *
 generalize Ck l k=xb at *
 go_enter Tryz.func98,Tryz.ntmps98
 go_wp2_with fail
 refine wp_region_noPanic ?_
 refine wp_region_held_drew (S:=fun w'=>w'=w.drew∧w'.cell? ⟨bS,0,none⟩=some (.slice (some ⟨b,o,none⟩) l.length c)∧CoAt w' b (o+i*2) xa∧CoAt w' b (o+k*2) xb) (by kernel_rfl) ⟨rfl,h2,ca,cb⟩ (fun hHeld=>?_)
 refine tqGHZ6 (i:=0) (n:=6) (v:=?_) ?_ ?_
 rotate_left 1
 ·intro wz hSw
  obtain⟨-,k2,⟨a0,a1⟩,⟨c0,c1⟩⟩:=hSw
  first|(go_simp;done)|(go_simp;with_reducible rfl)
 simp only[ls0,ls1]
 refine tqGHZ6 (i:=1) (n:=7) (v:=?_) ?_ ?_
 rotate_left 1
 ·intro wz hSw
  obtain⟨-,k2,⟨a0,a1⟩,⟨c0,c1⟩⟩:=hSw
  first|(go_simp;done)|(go_simp;with_reducible rfl)
 simp only[ls0,ls1]
 refine tqGHZ6 (i:=2) (n:=8) (v:=?_) ?_ ?_
 rotate_left 1
 ·intro wz hSw
  obtain⟨-,k2,⟨a0,a1⟩,⟨c0,c1⟩⟩:=hSw
  first|(go_simp;done)|(go_simp;with_reducible rfl)
 simp only[ls0,ls1]
 refine tqGHZ6 (i:=3) (n:=9) (v:=?_) ?_ ?_
 rotate_left 1
 ·intro wz hSw
  obtain⟨-,k2,⟨a0,a1⟩,⟨c0,c1⟩⟩:=hSw
  first|(go_simp;done)|(go_simp;with_reducible rfl)
 simp only[ls0,ls1]
 refine tqGHZ6 (i:=4) (n:=10) (v:=?_) ?_ ?_
 rotate_left 1
 ·intro wz hSw
  obtain⟨-,k2,⟨a0,a1⟩,⟨c0,c1⟩⟩:=hSw
  first|(go_simp;done)|(go_simp;with_reducible rfl)
 simp only[ls0,ls1]
 refine tqGHZ6 (i:=5) (n:=11) (v:=?_) ?_ ?_
 rotate_left 1
 ·intro wz hSw
  obtain⟨-,k2,⟨a0,a1⟩,⟨c0,c1⟩⟩:=hSw
  first|(go_simp;done)|(go_simp;with_reducible rfl)
 simp only[ls0,ls1]
 refine tqGHZ6 (i:=6) (n:=12) (v:=?_) ?_ ?_
 rotate_left 1
 ·intro wz hSw
  obtain⟨-,k2,⟨a0,a1⟩,⟨c0,c1⟩⟩:=hSw
  first|(go_simp;done)|(go_simp;with_reducible rfl)
 simp only[ls0,ls1]
 refine tqGHZ6 (i:=7) (n:=13) (v:=?_) ?_ ?_
 rotate_left 1
 ·intro wz hSw
  obtain⟨-,k2,⟨a0,a1⟩,⟨c0,c1⟩⟩:=hSw
  first|(go_simp;done)|(go_simp;with_reducible rfl)
 simp only[ls0,ls1]
 refine tqGHZ6 (i:=8) (n:=14) (v:=?_) ?_ ?_
 rotate_left 1
 ·intro wz hSw
  obtain⟨-,k2,⟨a0,a1⟩,⟨c0,c1⟩⟩:=hSw
  first|(go_simp;done)|(go_simp;with_reducible rfl)
 simp only[ls0,ls1]
 refine tqGHZ6 (i:=9) (n:=15) (v:=?_) ?_ ?_
 rotate_left 1
 ·intro wz hSw
  obtain⟨-,k2,⟨a0,a1⟩,⟨c0,c1⟩⟩:=hSw
  first|(go_simp;done)|(go_simp;with_reducible rfl)
 simp only[ls0,ls1]
 refine wpAnyH_ready (rs:=[10]) (by kernel_rfl) (by simp) ?_
 refine AllReadyH.cons rfl (fun K hK=>?_) AllReadyH.nil
 go_simp
 go_wp2_with (go_at_call 99;refine(Compare_any _ xa.a xb.a).mono ?_;rintro r w3 ⟨rfl,hw3⟩;subst hw3)
 refine hK.out _ _ ⟨rfl,h2,ca,cb⟩ (fun hHeld=>?_)
 clear hK K
 refine tqGHZ6 (i:=11) (n:=5) (v:=?_) ?_ ?_
 rotate_left 1
 ·intro wz hSw
  obtain⟨-,k2,⟨a0,a1⟩,⟨c0,c1⟩⟩:=hSw
  first|(go_simp;done)|(go_simp;with_reducible rfl)
 simp only[ls0,ls1]
 refine wpAnyH_done (by kernel_rfl) ?_ _
 refine NoPanic.normal ?_
 go_wp2_with fail
 go_ret
 exact⟨rfl,1,rfl⟩
def fillR(n j:Nat):List Int:=(List.range j).map (fun k:Nat=>(k:Int))++List.replicate (n-j) 0
theorem fillR_len{n j:Nat}(h:j≤n):(fillR n j).length=n:=by unfold fillR;simp;omega
theorem fillR_set{n j:Nat}(h:j<n):(fillR n j).set j (j:Int)=fillR n (j+1):=by
 unfold fillR
 rw[List.set_append_right _ _ (by simp)]
 obtain⟨m,hm⟩:∃m,n-j=m+1:=⟨n-j-1,by omega⟩
 rw[hm,List.replicate_succ,List.range_succ]
 simp[show n-(j+1)=m by omega]
def NumB(W:World)(g:Nat)(xs:List Int):Prop:=W.heap[g]?=some (.cells (xs.map (Value.int .i64)).toArray 3 (0,0))
theorem NumB.lt{W:World}{g:Nat}{xs:List Int}(h:NumB W g xs):g<W.heap.size:=(Array.getElem?_eq_some_iff.1 h).1
theorem NumB.put{W:World}{g:Nat}{xs:List Int}(h:NumB W g xs)(i:Nat)(v:Int):NumB (W.setCell ⟨g,i,none⟩ (.int .i64 v)) g (xs.set i v):=by
 unfold NumB at *
 rw[setCell_at h]
 congr 2
 apply Array.toList_inj.1
 simp[List.map_set]
theorem NumB.cell{W:World}{g:Nat}{xs:List Int}(h:NumB W g xs){i:Nat}{x:Int}(hi:xs[i]?=some x):W.cell? ⟨g,i,none⟩=some (.int .i64 x)∧W.frozen? ⟨g,i,none⟩=false:=by
 obtain⟨h1,h2,-⟩:=cells_of (l:=xs.map (Value.int .i64)) h
 refine⟨h1 i _ ?_,h2 i⟩
 rw[List.getElem?_map,hi]
 rfl
set_option maxRecDepth 20000 in
set_option maxHeartbeats 2000000 in
theorem stable_any(W:World)(n:Nat)(sv fv:Value)(Q:World→Prop)(hn:n≤19)(hI:Calls Tryz.prog 217 #[sv,.int .i64 0,.int .i64 (n:Int),fv] W fun r W'=>r = .returned (.tuple #[])∧Q W') :
  Calls Tryz.prog 150 #[sv,.int .i64 (n:Int),fv] W fun r W'=>r = .returned (.tuple #[])∧Q W':=by
 have ha:¬ (20:Int)≤(n:Int):=by omega
 have hb:¬ (20:Int)<(n:Int):=by omega
 have HI:Hid (Calls Tryz.prog 217 #[sv,.int .i64 0,.int .i64 (n:Int),fv] W fun r W'=>r = .returned (.tuple #[])∧Q W'):=hI
 clear hI
 go_enter Tryz.func150,Tryz.ntmps150
 go_wp2_with fail
 go_loopw [7,8] (fun v7 v8 wr=>v7 = .int .i64 0∧v8 = .int .i64 20∧wr=W) (fun _ _ _=>0)
 case atStart=>exact⟨rfl,rfl,rfl⟩
 case round =>
  obtain⟨rfl,rfl,hw⟩:=hrel
  have hw:=hw.symm
  subst hw
  go_wp2_with (go_at_call 217;refine HI.out.mono ?_;rintro r w5 ⟨rfl,h5⟩;have H5:Hid (Q w5):=h5;clear h5)
  go_loopw [6,7,8,9] (fun v6 _ _ _ wr=>v6 = .int .i64 20∧wr=w5) (fun _ _ _ _ _=>0)
  case atStart=>exact⟨rfl,rfl⟩
  case round =>
   obtain⟨rfl,hw⟩:=hrel
   have hw:=hw.symm
   subst hw
   go_wp2_with fail
   go_end0
   exact⟨rfl,H5.out⟩
set_option maxRecDepth 20000 in
theorem sortS_any(W:World)(n:Nat)(ad:Option Addr)(c:Nat)(fv:Value)(Q:World→Prop)(hn:n≤19)(hI:Calls Tryz.prog 217 #[.slice ad n c,.int .i64 0,.int .i64 (n:Int),fv] W fun r W'=>r = .returned (.tuple #[])∧Q W') :
  Calls Tryz.prog 97 #[.slice ad n c,fv] W fun r W'=>r = .returned (.tuple #[])∧Q W':=by
 have HI:=stable_any W n _ _ Q hn hI
 clear hI
 go_enter Tryz.func97,Tryz.ntmps97
 go_wp2_with (go_at_call 150;refine HI.mono ?_;rintro r w5 ⟨rfl,h5⟩;have H5:Hid (Q w5):=h5;clear h5 HI)
 go_end0
 exact⟨rfl,H5.out⟩
set_option maxRecDepth 20000 in
set_option maxHeartbeats 4000000 in
theorem inTime_any(w:World)(l:List Co)(cv:Value)(ord:List Nat)(hv:RowSl Co.vals w l cv)(h19:l.length≤19)(ho:ord.length=l.length)
  (hI:∀W g bS,Below w.heap.size w W→W.cell? ⟨bS,0,none⟩=some cv→bS<g→w.heap.size≤bS→NumB W g ((List.range l.length).map fun k:Nat=>(k:Int)) →
   Calls Tryz.prog 217 #[.slice (some ⟨g,0,none⟩) l.length l.length,.int .i64 0,.int .i64 (l.length:Int),.func (Fn.func 98) #[] #[.pointer (some ⟨bS,0,none⟩)]] W fun r W'=>r = .returned (.tuple #[])∧NumB W' g (ord.map fun k:Nat=>(k:Int))∧Below w.heap.size W W') :
  Calls Tryz.prog 56 #[cv] w (InTimePost w ord):=by
 obtain⟨ad,c,rfl⟩:=hv.len
 have HI:Hid (∀W g bS,Below w.heap.size w W→W.cell? ⟨bS,0,none⟩=some (.slice ad l.length c)→bS<g→w.heap.size≤bS→NumB W g ((List.range l.length).map fun k:Nat=>(k:Int)) →
   Calls Tryz.prog 217 #[.slice (some ⟨g,0,none⟩) l.length l.length,.int .i64 0,.int .i64 (l.length:Int),.func (Fn.func 98) #[] #[.pointer (some ⟨bS,0,none⟩)]] W fun r W'=>r = .returned (.tuple #[])∧NumB W' g (ord.map fun k:Nat=>(k:Int))∧Below w.heap.size W W'):=hI
 have HO:Hid (ord.length=l.length∧l.length≤19):=⟨ho,h19⟩
 have hll:l.length≤1000000:=by omega
 obtain⟨w1,hmk,hb1,hs1,hN1⟩:∃w1,(Instr.makeSlice 25 (.int .i64 (l.length:Int)) (.int .i64 (l.length:Int))).run Tryz.prog (w.alloc (.cells #[.slice ad l.length c] 24)) = .ok (.slice (some ⟨w.heap.size+1,0,none⟩) l.length l.length) w1∧Below w.heap.size w w1∧w1.heap[w.heap.size]?=some (.cells #[.slice ad l.length c] 24 (0,0))∧NumB w1 (w.heap.size+1) (fillR l.length 0):=by
  refine⟨_,make_row _ l.length (w.heap.size+1) hll (by simp),below_seq (below_new _ _) (below_new _ _),?_,?_⟩
  ·exact(Below.heap_alloc _ _ _ (by simp)).trans (heap_alloc_new _ _)
  ·unfold NumB fillR
   have:=heap_alloc_new (w.alloc (.cells #[.slice ad l.length c] 24)) (.cells (List.replicate l.length (Value.int .i64 0)).toArray 3)
   rw[show(w.alloc (.cells #[.slice ad l.length c] 24)).heap.size=w.heap.size+1 from by simp]at this
   rw[this]
   simp
 have H1:Hid (Below w.heap.size w w1∧w1.heap[w.heap.size]?=some (.cells #[.slice ad l.length c] 24 (0,0))∧NumB w1 (w.heap.size+1) (fillR l.length 0)):=⟨hb1,hs1,hN1⟩
 clear hv hI ho h19 hll hb1 hs1 hN1
 go_enter Tryz.func56,Tryz.ntmps56
 go_wp2_with fail
 clear hmk
 go_loopw [10] (fun i wr=>∃j:Nat,j≤l.length∧i = .int .i64 j∧Below w.heap.size w wr∧wr.heap[w.heap.size]?=some (.cells #[.slice ad l.length c] 24 (0,0))∧NumB wr (w.heap.size+1) (fillR l.length j)) (fun i _=>l.length-(intOf i).toNat)
 case atStart=>exact⟨0,Nat.zero_le _,rfl,H1.out.1,H1.out.2.1,H1.out.2.2⟩
 case round =>
  obtain⟨j,hj,rfl,hg,hs,hN⟩:=hrel
  have HG:Hid (Below w.heap.size w wr∧wr.heap[w.heap.size]?=some (.cells #[.slice ad l.length c] 24 (0,0))∧NumB wr (w.heap.size+1) (fillR l.length j)):=⟨hg,hs,hN⟩
  by_cases hjl:j<l.length
  ·obtain⟨z,hz⟩:∃z,(fillR l.length j)[j]?=some z:=⟨_,List.getElem?_eq_getElem (by rw[fillR_len hj];exact hjl)⟩
   obtain⟨c0,c1⟩:=hN.cell hz
   have lg:=hN.lt
   have hji:(j:Int)<(l.length:Int):=by omega
   have hl19:l.length≤19:=HO.out.2
   have HF:Hid ((fillR l.length j).set j (j:Int)=fillR l.length (j+1)):=fillR_set hjl
   clear hz hg hN hs
   go_wp2_with fail
   refine⟨⟨j+1,by omega,by simp,HG.out.1.setCell (Nat.le_succ _) _,?_,?_⟩,by simp[intOf];omega⟩
   ·exact(Below.heap_setCell _ _ _ _ (by simp)).trans HG.out.2.1
   ·have e:=HG.out.2.2.put j (j:Int)
    rw[HF.out]at e
    exact e
  ·have hje:j=l.length:=by omega
   subst hje
   have HE:Hid (NumB wr (w.heap.size+1) ((List.range l.length).map fun k:Nat=>(k:Int))):=by
    have:NumB wr (w.heap.size+1) ((List.range l.length).map fun k:Nat=>(k:Int)):=by simpa[fillR] using hN
    exact this
   have HS:=sortS_any wr l.length (some ⟨w.heap.size+1,0,none⟩) l.length (.func (Fn.func 98) #[] #[.pointer (some ⟨w.heap.size,0,none⟩)]) (fun W'=>NumB W' (w.heap.size+1) (ord.map fun k:Nat=>(k:Int))∧Below w.heap.size wr W') HO.out.2 (HI.out wr (w.heap.size+1) w.heap.size HG.out.1 ((cells_of (l:=[_]) hs).1 0 _ rfl) (by omega) (Nat.le_refl _) HE.out)
   clear hg hN hs
   go_wp2_with (go_at_call 97;refine HS.mono ?_;rintro r w5 ⟨rfl,h5⟩;have H5:Hid (NumB w5 (w.heap.size+1) (ord.map fun k:Nat=>(k:Int))∧Below w.heap.size wr w5):=h5;clear h5 HS)
   go_ret
   refine⟨w.heap.size+1,?_,by omega,?_,HG.out.1.trans H5.out.2⟩
   ·rw[HO.out.1]
    rfl
   ·have:=H5.out.1
    unfold NumB at this
    rw[this,List.map_map]
    rfl
end Go.Proofs.YtccoobcggbbcialGreatDoor
namespace Go.Proofs.YtccoobcggbbcialGreatDoor
open Go.ChangeShapes Go.WideShapes Go.ChangeAt Go.RowKit Go.Sort Go.Shelf
def lay_insNu_ren:Go.Shelf.Ren:=⟨fun|20=>217|n=>n,fun|24=>3|22=>25|3=>3|25=>121|4=>4|0=>0|n=>n,fun|n=>n⟩
theorem lay_insNu:Go.Proofs.SlLaysF.n20 Tryz.prog lay_insNu_ren:={
 mixed:=by kernel_rfl
 f20:=⟨Tryz.f217.name,by decide,Tryz.func217.trans (congrArg some (by kernel_rfl))⟩
 t0:=Tryz.underlying0
 a0:=Tryz.isAgg0
 z0:=Tryz.sizeOf0
 v0:=Tryz.zeroValue0
 t3:=Tryz.underlying3
 a3:=Tryz.isAgg3
 z3:=Tryz.sizeOf3
 v3:=Tryz.zeroValue3
 t4:=Tryz.underlying4
 a4:=Tryz.isAgg4
 z4:=Tryz.sizeOf4
 v4:=Tryz.zeroValue4
 t22:=Tryz.underlying25
 a22:=Tryz.isAgg25
 z22:=Tryz.sizeOf25
 v22:=Tryz.zeroValue25
 a24:=Tryz.isAgg3
 z24:=Tryz.sizeOf3
 t25:=Tryz.underlying121
 a25:=Tryz.isAgg121
 z25:=Tryz.sizeOf121
 v25:=Tryz.zeroValue121 }
def finL(N:Nat):List (Fin N):=(List.range N).pmap (fun a h=>⟨a,h⟩) (fun a h=>by simpa using h)
theorem finL_val(N:Nat):(finL N).map (fun p=>p.val)=List.range N:=by
 unfold finL
 rw[List.map_pmap]
 simp
theorem finL_len(N:Nat):(finL N).length=N:=by simp[finL]
theorem putCells_all{α:Type}[Inhabited α](enc:α→Value)(d:Array α)(c:Array Value)(h:c.size=d.size):putCells enc 0 d c=d.map enc:=by
 apply Array.ext
 ·simp[putCells,h]
 ·intro i h1 h2
  have hi:i<d.size:=by simpa using h2
  simp[putCells,hi]
theorem sorted_heap{α:Type}[Inhabited α](enc:α→Value){w:World}{g n:Nat}{os:Array Obj}{cur:Array Value}{e:TypeId}{fr:Nat × Nat}(d:Array α)(hb:w.heap[g]?=some (.cells cur e fr))(hs:cur.size=d.size) :
  (grow (putRow enc (Sort.ahead w n) g 0 d) os).heap[g]?=some (.cells (d.map enc) e fr):=by
 have hg:g<w.heap.size:=(Array.getElem?_eq_some_iff.1 hb).1
 rw[heap_grow_old _ _ (by simpa using hg),← putCells_all enc d cur hs]
 simp[putRow,mapBlock,Sort.ahead,Array.getElem?_modify,hb,onCells]
theorem sorted_keep{α:Type}[Inhabited α](enc:α→Value){w:World}{g n:Nat}{os:Array Obj}(d:Array α):w.grownBy (grow (putRow enc (Sort.ahead w n) g 0 d) os) (some g):=by
 refine⟨rfl,rfl,rfl,by simp,fun k hk hne=>?_⟩
 rw[heap_grow_old _ _ (by simpa using hk)]
 have:g≠k:=fun e=>hne (by rw[e])
 simp[putRow,mapBlock,Sort.ahead,Array.getElem?_modify,this]
theorem finL_get{n p:Nat}[Inhabited (Fin n)](h:p<n):((finL n).toArray[p]!).val=p:=by
 have hl:p<(finL n).length:=by rw[finL_len];exact h
 rw[getElem!_pos _ p (by simpa using hl)]
 have e:=finL_val n
 have h2:((finL n).map (fun p=>p.val))[p]?=some p:=by rw[e];simp[h]
 rw[List.getElem?_map,List.getElem?_eq_getElem hl]at h2
 simpa using h2
def encA(n:Nat)(p:Fin n):Value:=.int .i64 (p.val:Int)
theorem encA_map{n:Nat}(d:List (Fin n)):d.map (encA n)=(d.map fun p=>((p.val:Nat):Int)).map (Value.int .i64):=by
 unfold encA
 rw[List.map_map]
 rfl
theorem cmpI_neg(x y:Int):decide (cmpI x y<0)=decide (x<y):=by
 unfold cmpI
 by_cases h:x<y
 ·simp[h]
 ·by_cases h2:y<x<;>simp[h,h2]
theorem swoA(l:List Co):SWO (ltOf fun x y:Fin l.length=>cmpI (Ck l x.val).a (Ck l y.val).a) where
 irrefl x:=by unfold ltOf;rw[cmpI_neg];simp
 trans x y z h1 h2:=by
  unfold ltOf at *
  rw[cmpI_neg]at *
  have:=of_decide_eq_true h1
  have:=of_decide_eq_true h2
  exact decide_eq_true (by omega)
 ntrans x y z h1 h2:=by
  unfold ltOf at *
  rw[cmpI_neg]at *
  have:=of_decide_eq_false h1
  have:=of_decide_eq_false h2
  exact decide_eq_false (by omega)
def insO(l:List Co)[Inhabited (Fin l.length)]:List Nat:=(insertionSort (ltOf fun x y:Fin l.length=>cmpI (Ck l x.val).a (Ck l y.val).a) (finL l.length).toArray 0 l.length).toList.map fun p=>p.val
set_option maxRecDepth 20000 in
set_option maxHeartbeats 2000000 in
theorem insC_any(W:World)(l:List Co)[Inhabited (Fin l.length)](v:Value)(bS g:Nat)(h19:l.length≤19)(hv:RowSl Co.vals W l v)(h2:W.cell? ⟨bS,0,none⟩=some v)(hn2:bS≠g)(hrow:∀ad c,v = .slice ad l.length c→∀b o,ad=some ⟨b,o,none⟩→b≠g)(hN:NumB W g ((List.range l.length).map fun k:Nat=>(k:Int))) :
  Calls Tryz.prog 217 #[.slice (some ⟨g,0,none⟩) l.length l.length,.int .i64 0,.int .i64 (l.length:Int),.func (.func 98) #[] #[.pointer (some ⟨bS,0,none⟩)]] W fun r W'=>r = .returned (.tuple #[])∧NumB W' g ((insO l).map fun k:Nat=>(k:Int))∧W.grownBy W' (some g):=by
 have eg:∀args w,(callFunc 98 args).run Tryz.prog w = .ok (.enter 98 args) w:=enters_of Tryz.func98 (by kernel_rfl) rfl
 have hsz:(finL l.length).toArray.size=l.length:=by simp[finL_len]
 have hC':W.heap[g]?=some (.cells ((finL l.length).toArray.map (encA l.length)) 3 (0,0)):=by
  rw[hN,List.map_toArray,encA_map,show((finL l.length).map fun p=>((p.val:Nat):Int))=((finL l.length).map fun p=>p.val).map (fun k:Nat=>(k:Int)) from by rw[List.map_map];rfl,finL_val]
 have hH:Holds (encA l.length) W g 0 (finL l.length).toArray:=by
  intro j hj
  have hj':j<l.length:=by rw[hsz]at hj;exact hj
  obtain⟨c1,c2⟩:=hN.cell (i:=j) (x:=(j:Int)) (by simp[hj'])
  refine⟨?_,by rw[Nat.zero_add];exact c2⟩
  rw[Nat.zero_add,c1]
  unfold encA
  rw[finL_get hj']
 have hcmp:CmpLays1 Tryz.prog 98 #[.pointer (some ⟨bS,0,none⟩)] (encA l.length) (fun x y=>cmpI (Ck l x.val).a (Ck l y.val).a) g 0 (finL l.length).toArray.size W:=fun m os dk _ x y=>by
  have hk:=sorted_keep (encA l.length) (w:=W) (g:=g) (n:=m) (os:=os) dk
  have kc:∀(a:Addr) (u:Value),W.cell? a=some u→a.block≠g→(sortWorld (encA l.length) W g 0 m dk os).cell? a=some u:=fun a u hu hne=>hk.cell hu (fun e=>hne (Option.some.inj e))
  have hv':RowSl Co.vals (sortWorld (encA l.length) W g 0 m dk os) l v:=by
   obtain⟨ad,c,rfl,q1,q2,q3⟩:=hv
   refine⟨ad,c,rfl,q1,q2,?_⟩
   rcases q3 with q3|⟨b,o,e,q3⟩
   ·exact .inl q3
   ·exact .inr ⟨b,o,e,fun q u hq=>kc _ _ (q3 q u hq) (hrow ad c rfl b o e)⟩
  refine(byAt_any _ l v bS x.val y.val x.isLt y.isLt hv' (kc _ _ h2 hn2)).mono ?_
  rintro r w' ⟨rfl,q,rfl⟩
  exact⟨rfl,q,#[],by simp⟩
 have h:=Any.insertionSortCmpFunc_s lay_insNu (encA l.length) (fun x y=>cmpI (Ck l x.val).a (Ck l y.val).a) 98 #[.pointer (some ⟨bS,0,none⟩)] g 0 l.length 0 l.length (finL l.length).toArray (finL l.length).toArray W W eg hcmp ⟨fun _=>rfl,hH,hN.lt⟩ rfl (SW.start hH) (Nat.zero_le _) (by omega) (by omega)
 rw[hsz]at h
 change Calls Tryz.prog 217 _ _ _ at h
 refine h.mono ?_
 rintro r W' ⟨rfl,n,os,rfl⟩
 have hds:(insertionSort (ltOf fun x y:Fin l.length=>cmpI (Ck l x.val).a (Ck l y.val).a) (finL l.length).toArray 0 l.length).size=l.length:=(insertionSort_holds (swoA l) (finL l.length).toArray 0 l.length (Nat.zero_le _) (by omega)).1.1.trans hsz
 refine⟨rfl,?_,sorted_keep _ _⟩
 have h9:=sorted_heap (n:=n) (os:=os) (encA l.length) (insertionSort (ltOf fun x y:Fin l.length=>cmpI (Ck l x.val).a (Ck l y.val).a) (finL l.length).toArray 0 l.length) hC' (by rw[Array.size_map,hsz,hds])
 unfold NumB insO
 rw[show(sortWorld (encA l.length) W g 0 n _ os).heap[g]?=_ from h9,List.map_map]
 congr 2
 apply Array.toList_inj.1
 simp[encA]
end Go.Proofs.YtccoobcggbbcialGreatDoor
namespace Go.Proofs.YtccoobcggbbcialGreatDoor
open Go.ChangeShapes Go.WideShapes Go.ChangeAt Go.RowKit
def ptsF:List Pa:=[⟨0,-1,0,2,20,20,2⟩,⟨1,0,3,4,20,20,1⟩,⟨1,-1,0,1,10,10,2⟩,⟨0,2,0,1,10,10,1⟩]
def csF:List Co:=[⟨0,0⟩,⟨2,4⟩]
set_option maxRecDepth 100000 in
theorem ends_closed:(playTo ptsF [] csF [0,1] 30).2.ends=[[2,9,-1,-1],[-1,-1,5,6]]:=by kernel_rfl
theorem chk_closed:chkPl ptsF csF [] 30=(0,0):=by kernel_rfl
theorem chkP_closed:chkP ptsF=(0,0):=by kernel_rfl
end Go.Proofs.YtccoobcggbbcialGreatDoor
namespace Go.Proofs.YtccoobcggbbcialGreatDoor
open Go.ChangeShapes Go.WideShapes Go.ChangeAt Go.RowKit Go.Sort
instance : Inhabited (Fin csF.length):=⟨⟨0,by decide⟩⟩
theorem insO_closed:insO csF=[0,1]:=by
 unfold insO insertionSort
 kernel_rfl
end Go.Proofs.YtccoobcggbbcialGreatDoor
