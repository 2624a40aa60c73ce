import Derived.Test.YtccoobcggbbcialGreatDoorGHV3
import Derived.Test.YtccoobcggbbcialGreatDoorGXR
import Derived.Deep.RegionHeld3
namespace Go.Proofs.YtccoobcggbbcialGreatDoor
open Go.ChangeShapes Go.WideShapes Go.ChangeAt Go.RowKit
theorem tqGLa0{P:Program}{md:Region.Mode}{ops:Array Oper}{Q:Exit→Act→World→Prop}{S:World→Prop}{i n:Nat}{oi:Oper}{v:Value}{fuel:Nat}{listed:Array Bool}{l:List Value}{ds:List Deferred}{w:World}
  (hy:∀w,S w→(execOp (Act.eval ⟨l.toArray,ds⟩) oi).run P w = .ok (.value v) w) (h:wpAnyH P md ops Q S fuel (listed.setIfInBounds i true) ⟨(l.set n v).toArray,ds⟩ w)
  (hi:ops[i]?=some oi:=by rfl) (hd:oi.dst=some n:=by rfl) (hs:(Region.noSelect ops && Region.free md ops listed i && (Region.ready md ops listed).contains i)=true:=by kernel_rfl)
  (hQ:∀c a w,Q (.panic c) (a.put oi.dst v) w→Q (.panic c) a w:=by exact fun _ _ _ h=>h) (hg:Region.wanted oi (yielded ops l.toArray)=true:=by rfl) (hS:S w:=by assumption):wpAnyH P md ops Q S (fuel+1) listed ⟨l.toArray,ds⟩ w:=by
 simp only[Bool.and_eq_true]at hs
 exact take_at hi hd hs.1.1 hs.1.2 hs.2 hQ (.inl ⟨hg,hy⟩) hS h
end Go.Proofs.YtccoobcggbbcialGreatDoor
namespace Go.Proofs.YtccoobcggbbcialGreatDoor
open Go.ChangeShapes Go.WideShapes Go.ChangeAt Go.RowKit
set_option maxRecDepth 20000 in
set_option maxHeartbeats 4000000 in
theorem EqN_any(w:World)(a b:List Int)(v v':Value)(hl:a.length≤4194304)(hab:a.length=b.length)(h:RowSl nuV w a v)(h':RowSl nuV w b v') :
  Calls Tryz.prog 145 #[v,v'] w fun r w'=>r = .returned (.bool (decide (a=b)))∧Below w.heap.size w w':=by
 obtain⟨ad,c,rfl,-,-,hc⟩:=h
 obtain⟨ad',c',rfl,-,-,hc'⟩:=h'
 have HR:Hid (_∧_):=⟨hc,hc'⟩
 have HL:Hid (a.length=b.length):=hab
 rw[← hab]
 obtain⟨z,hz⟩:∃z,decide (a=b)=z:=⟨_,rfl⟩
 rw[hz]
 have HZ:Hid (decide (a=b)=z):=hz
 clear hz hc hc' hab
 go_enter Tryz.func145,Tryz.ntmps145
 go_wp2_with fail
 go_loopw [13] (fun x wr=>∃j:Nat,j≤a.length∧x = .int .i64 j∧Below w.heap.size w wr∧Hid (a.take j=b.take j)) (fun x _=>a.length-(intOf x).toNat)
 case atStart=>exact⟨0,Nat.zero_le _,rfl,Below.refl _ _,rfl⟩
 case round =>
  obtain⟨j,hj,rfl,hb,HT⟩:=hrel
  have HB:Hid (Below w.heap.size w wr):=hb
  by_cases hlt:j<a.length
  ·obtain⟨x,hx,-⟩:=drop_at hlt
   obtain⟨y,hy,-⟩:=drop_at (l:=b) (k:=j) (by have:=HL.out;omega)
   have HXY:Hid (a[j]?=some x∧b[j]?=some y):=⟨hx,hy⟩
   rcases HR.out.1 with h|⟨b1,o1,rfl,hrow1⟩
   ·rw[h]at hlt;simp at hlt
   rcases HR.out.2 with h|⟨b2,o2,rfl,hrow2⟩
   ·have:=HL.out;rw[h]at this;simp at this;rw[this]at hlt;simp at hlt
   have c0:=nu_at (fun q u hq=>below_cell hb (hrow1 q u hq)) hx
   have d0:=nu_at (fun q u hq=>below_cell hb (hrow2 q u hq)) hy
   clear hrow1 hrow2 hb hx hy
   by_cases he:x=y
   ·subst he
    have HS:Hid (a.take (j+1)=b.take (j+1)):=(by rw[List.take_add_one,List.take_add_one,HT.out,HXY.out.1,HXY.out.2]:a.take (j+1)=b.take (j+1))
    go_wp2_with fail
    go_quiet (fail)
    go_wp2_with fail
    go_roundw
    case rel=>exact⟨j+1,by omega,by go_num,below_seq HB.out (below_drewN' (n:=nq)),HS.out⟩
    case measure=>simp[intOf];omega
   ·have hne:(x != y)=true:=by simpa using he
    have HZF:Hid (z=false):=(by rw[← HZ.out,decide_eq_false_iff_not];intro e;have h1:=HXY.out.1;rw[e,HXY.out.2]at h1;cases h1;exact he rfl:z=false)
    go_wp2_with fail
    go_quiet (fail)
    go_wp2_with fail
    go_ret
    exact⟨by rw[HZF.out];rfl,below_seq HB.out (below_drewN' (n:=nq))⟩
  ·have hje:j=a.length:=by omega
   subst hje
   have HZT:Hid (z=true):=(by
    rw[← HZ.out,decide_eq_true_iff]
    have h1:=HT.out
    rw[List.take_of_length_le (Nat.le_refl _),List.take_of_length_le (by rw[HL.out];exact Nat.le_refl _)]at h1
    exact h1:z=true)
   go_wp2_with fail
   go_ret
   exact⟨by rw[HZT.out];rfl,hb⟩
set_option maxRecDepth 20000 in
set_option maxHeartbeats 4000000 in
theorem SmN_any(w:World)(a b:List Int)(v v':Value)(hl:a.length≤4194304)(hab:a.length=b.length)(h:RowSl nuV w a v)(h':RowSl nuV w b v') :
  Calls Tryz.prog 30 #[v,v'] w fun r w'=>r = .returned (.bool (decide (a=b)))∧Below w.heap.size w w':=by
 obtain⟨ad,c,rfl,-,-,hc⟩:=h
 obtain⟨ad',c',rfl,-,-,hc'⟩:=h'
 have HR:Hid (_∧_):=⟨hc,hc'⟩
 have HL:Hid (a.length=b.length):=hab
 rw[← hab]
 obtain⟨z,hz⟩:∃z,decide (a=b)=z:=⟨_,rfl⟩
 rw[hz]
 have HZ:Hid (decide (a=b)=z):=hz
 clear hz hc hc' hab
 go_enter Tryz.func30,Tryz.ntmps30
 go_wp2_with fail
 go_loopw [13] (fun x wr=>∃j:Nat,j≤a.length∧x = .int .i64 j∧Below w.heap.size w wr∧Hid (a.take j=b.take j)) (fun x _=>a.length-(intOf x).toNat)
 case atStart=>exact⟨0,Nat.zero_le _,rfl,Below.refl _ _,rfl⟩
 case round =>
  obtain⟨j,hj,rfl,hb,HT⟩:=hrel
  have HB:Hid (Below w.heap.size w wr):=hb
  by_cases hlt:j<a.length
  ·obtain⟨x,hx,-⟩:=drop_at hlt
   obtain⟨y,hy,-⟩:=drop_at (l:=b) (k:=j) (by have:=HL.out;omega)
   have HXY:Hid (a[j]?=some x∧b[j]?=some y):=⟨hx,hy⟩
   rcases HR.out.1 with h|⟨b1,o1,rfl,hrow1⟩
   ·rw[h]at hlt;simp at hlt
   rcases HR.out.2 with h|⟨b2,o2,rfl,hrow2⟩
   ·have:=HL.out;rw[h]at this;simp at this;rw[this]at hlt;simp at hlt
   have c0:=nu_at (fun q u hq=>below_cell hb (hrow1 q u hq)) hx
   have d0:=nu_at (fun q u hq=>below_cell hb (hrow2 q u hq)) hy
   clear hrow1 hrow2 hb hx hy
   by_cases he:x=y
   ·subst he
    have HS:Hid (a.take (j+1)=b.take (j+1)):=(by rw[List.take_add_one,List.take_add_one,HT.out,HXY.out.1,HXY.out.2]:a.take (j+1)=b.take (j+1))
    go_wp2_with fail
    go_quiet (fail)
    go_wp2_with fail
    go_roundw
    case rel=>exact⟨j+1,by omega,by go_num,below_seq HB.out (below_drewN' (n:=nq)),HS.out⟩
    case measure=>simp[intOf];omega
   ·have hne:(x != y)=true:=by simpa using he
    have HZF:Hid (z=false):=(by rw[← HZ.out,decide_eq_false_iff_not];intro e;have h1:=HXY.out.1;rw[e,HXY.out.2]at h1;cases h1;exact he rfl:z=false)
    go_wp2_with fail
    go_quiet (fail)
    go_wp2_with fail
    go_ret
    exact⟨by rw[HZF.out];rfl,below_seq HB.out (below_drewN' (n:=nq))⟩
  ·have hje:j=a.length:=by omega
   subst hje
   have HZT:Hid (z=true):=(by
    rw[← HZ.out,decide_eq_true_iff]
    have h1:=HT.out
    rw[List.take_of_length_le (Nat.le_refl _),List.take_of_length_le (by rw[HL.out];exact Nat.le_refl _)]at h1
    exact h1:z=true)
   go_wp2_with fail
   go_ret
   exact⟨by rw[HZT.out];rfl,hb⟩
def UPost(w:World)(n:Nat)(R:Option (List Int)→Prop)(r:Ending)(w':World):Prop:=∃res u,R res∧Below w.heap.size w w'∧r = .returned (.tuple #[u,.bool res.isSome])∧(res=none→u = .slice none 0 0)∧∀nx,res=some nx→RowSl nuV w' nx u∧NewSl w.heap.size u∧nx.length=n
theorem LatPost.u{w:World}{l:List Pa}{tk:List Int}{r:Ending}{w':World}(h:LatPost w l tk r w'):UPost w l.length (LatR l tk) r w':=by
 obtain⟨res,h1,h2,⟨rfl,rfl⟩|⟨late,u,rfl,rfl,h3,h4,h5⟩⟩:=h
 ·exact⟨none,_,h1,h2,rfl,fun _=>rfl,fun nx e=>by cases e⟩
 ·exact⟨some late,u,h1,h2,rfl,(fun e=>by cases e),fun nx e=>by cases e;exact⟨h3,h4,h5⟩⟩
theorem RespCPost.u{w:World}{l:List Pa}{late:List Int}{r:Ending}{w':World}(h:RespCPost w l late r w'):UPost w l.length (fun res=>res=respC l late 4) r w':=by
 obtain⟨h2,⟨h1,rfl⟩|⟨all,u,h1,rfl,h3,h4,h5⟩⟩:=h
 ·exact⟨none,_,h1.symm,h2,rfl,fun _=>rfl,fun nx e=>by cases e⟩
 ·exact⟨some all,u,h1.symm,h2,rfl,(fun e=>by cases e),fun nx e=>by cases e;exact⟨h3,h4,h5⟩⟩
theorem follow_ends{w:World}{p q:Value}{a:Act}(h2:a.tmps[3]?.getD undef=p)(h3:a.tmps[4]?.getD undef=q):(results Tryz.f88 a.tmps).run Tryz.prog w = .ok (.tuple #[p,q]) w:=by
 simp[results,Tryz.results88,go_sem,h2,h3]
theorem settleC_ends{w:World}{p q:Value}{a:Act}(h2:a.tmps[4]?.getD undef=p)(h3:a.tmps[5]?.getD undef=q):(results Tryz.f87 a.tmps).run Tryz.prog w = .ok (.tuple #[p,q]) w:=by
 simp[results,Tryz.results87,go_sem,h2,h3]
theorem PsOk.fr{l:List Pa}(h:PsOk l):∀(i:Nat) (x:Pa),l[i]?=some x→x.fr=-1∨(0≤x.fr∧x.fr<(i:Int)):=fun i x hx=>by
 rcases(h.at_ i x hx).fr with h|h
 ·exact .inl h.1
 ·exact .inr ⟨h.1,h.2.1⟩
set_option maxRecDepth 20000 in
set_option maxHeartbeats 4000000 in
theorem follow_any(w:World)(l:List Pa)(tk:List Int)(v v2:Value)(g:Nat)(hok:PsOk l)(hg:w.cell? ⟨g,0,none⟩=some v)(hv:RowSl Pa.vals w l v)(ht:RowSl nuV w tk v2)(hlen:tk.length=l.length):Calls Tryz.prog 88 #[v2,.pointer (some ⟨g,0,none⟩)] w (UPost w l.length (StepR l tk)):=by
 have HC:=(lateness_any w l tk v v2 hv ht hok.one hok.most hlen hok.fr).mono (fun r w' h=>LatPost.u h)
 obtain⟨ad,c,rfl⟩:=hv.len
 have HV:Hid (RowSl Pa.vals w l (.slice ad l.length c)∧PsOk l):=⟨hv,hok⟩
 clear hv hok ht hlen
 go_enter Tryz.func88,Tryz.ntmps88
 go_upto_region 2 with (go_at_call 89;refine HC.mono ?_;rintro r w1 ⟨res,u,hr,hb1,rfl,hn,hs⟩;have H1:Hid (LatR l tk res∧Below w.heap.size w w1∧(res=none→u = .slice none 0 0)∧∀nx,res=some nx→RowSl nuV w1 nx u∧NewSl w.heap.size u∧nx.length=l.length):=⟨hr,hb1,hn,hs⟩;have hg1:=below_cell hb1 hg;clear hr hb1 hn hs HC hg)
 rcases res with _|late
 ·simp only[Option.isSome]
  go_wp2_with fail
  refine bodyPost_ret (follow_ends rfl rfl) rfl ?_
  exact⟨none,_,⟨none,H1.out.1,.inl ⟨rfl,rfl⟩⟩,H1.out.2.1,rfl,fun _=>rfl,fun nx e=>by cases e⟩
 ·obtain⟨hr,hb1,-,hs⟩:=H1.out
  obtain⟨hs1,hs2,hs3⟩:=hs late rfl
  have HD:=(responsesC_any w1 l late _ u (HV.out.1.below hb1) hs1 HV.out.2.one HV.out.2.most hs3).mono (fun r w' h=>RespCPost.u h)
  obtain⟨ad1,c1,rfl⟩:=hs1.len
  have H2:Hid (LatR l tk (some late)∧Below w.heap.size w w1):=⟨hr,hb1⟩
  clear hr hb1 hs hs1 hs2 hs3 H1
  simp only[Option.isSome]
  go_wp2_with (go_at_call 90;refine HD.mono ?_;rintro r w2 ⟨res,u,hr,hb2,rfl,hn,hs⟩;have H3:Hid (res=respC l late 4∧Below w1.heap.size w1 w2∧(res=none→u = .slice none 0 0)∧∀nx,res=some nx→RowSl nuV w2 nx u∧NewSl w1.heap.size u∧nx.length=l.length):=⟨hr,hb2,hn,hs⟩;clear hr hb2 hn hs HD)
  refine bodyPost_ret (follow_ends rfl rfl) rfl ?_
  obtain⟨g1,g2,g3,g4⟩:=H3.out
  exact⟨res,u,⟨some late,H2.out.1,.inr ⟨late,rfl,g1⟩⟩,below_seq H2.out.2 g2,rfl,g3,fun nx e=>⟨(g4 nx e).1,(g4 nx e).2.1.mono H2.out.2.size,(g4 nx e).2.2⟩⟩
def rdN(W:World):Value→List Int
 | .slice (some ⟨b,o,_⟩) n _=>(List.range n).map fun q=>match W.cell? ⟨b,o+q,none⟩ with
  | some (.int _ z)=>z
  | _=>0
 | _=>[]
theorem rdN_row{W:World}{tk:List Int}{v:Value}(h:RowSl nuV W tk v):rdN W v=tk:=by
 obtain⟨ad,c,rfl,hn,-,hr⟩:=h
 rcases hr with rfl|⟨b,o,rfl,hr⟩
 ·cases ad<;>simp[rdN]
 ·simp only[rdN]
  refine List.ext_getElem? fun q=>?_
  rw[List.getElem?_map]
  by_cases hq:q<tk.length
  ·rw[List.getElem?_range hq,Option.map_some,nu_at hr (List.getElem?_eq_getElem hq),List.getElem?_eq_getElem hq]
  ·rw[List.getElem?_eq_none (by simp;omega),List.getElem?_eq_none (by omega)];rfl
set_option maxRecDepth 20000 in
set_option maxHeartbeats 4000000 in
theorem settleC_any(w:World)(l:List Pa)(v:Value)(g:Nat)(hok:PsOk l)(hg:w.cell? ⟨g,0,none⟩=some v)(hv:RowSl Pa.vals w l v):Calls Tryz.prog 87 #[.int .i64 (l.length:Int),.func (Fn.func 88) #[] #[.pointer (some ⟨g,0,none⟩)]] w (UPost w l.length (Sett l (List.replicate l.length 0))):=by
 have h8:=hok.most
 obtain⟨w3,hmk,hb3,hh3⟩:=make_ints w l.length (by omega)
 have H3:Hid (RowSl nuV w3 (List.replicate l.length 0) (.slice (some ⟨w.heap.size,0,none⟩) l.length l.length)∧Below w.heap.size w w3∧NewSl w.heap.size (.slice (some ⟨w.heap.size,0,none⟩) l.length l.length)):=⟨zeros_row hh3,hb3,fun a n c e=>by cases e;exact Nat.le_refl _⟩
 have HV:Hid (RowSl Pa.vals w l v∧PsOk l∧w.cell? ⟨g,0,none⟩=some v):=⟨hv,hok,hg⟩
 obtain⟨G,hG⟩:∃G,w.heap.size=G:=⟨_,rfl⟩
 have HG:Hid (w.heap.size=G):=hG
 rw[hG]at hmk
 clear hv hok hg hb3 hh3 hG
 go_enter Tryz.func87,Tryz.ntmps87
 go_wp2_with fail
 clear hmk
 go_loopw [6] (fun tv wr=>∃ad n c,tv = .slice ad n c∧n=l.length∧Hid (∃tk,Rise l tk∧RowSl nuV wr tk (.slice ad n c)∧Below w.heap.size w wr)) (fun tv wr=>mz l (rdN wr tv))
 case atStart=>exact⟨_,_,_,rfl,rfl,⟨_,Rise.start HV.out.2.1,by rw[← HG.out];exact H3.out.1,H3.out.2.1⟩⟩
 case round =>
  obtain⟨ad,n,c,rfl,rfl,HX⟩:=hrel
  clear H3 HG
  obtain⟨tk,hr,hrow,hbw⟩:=HX.out
  have HC:=follow_any wr l tk v _ g HV.out.2.1 (below_cell hbw HV.out.2.2) (HV.out.1.below hbw) hrow hr.ok.1
  have HT:Hid (Rise l tk∧RowSl nuV wr tk (.slice ad l.length c)∧Below w.heap.size w wr):=⟨hr,hrow,hbw⟩
  clear hr hrow hbw HX
  go_upto_region 3 with (go_at_call 88;refine HC.mono ?_;rintro r w1 ⟨res,u,hr,hb1,rfl,hn,hs⟩;have H1:Hid (StepR l tk res∧Below wr.heap.size wr w1∧(res=none→u = .slice none 0 0)∧∀nx,res=some nx→RowSl nuV w1 nx u∧NewSl wr.heap.size u∧nx.length=l.length):=⟨hr,hb1,hn,hs⟩;clear hr hb1 hn hs HC)
  rcases res with _|nx
  ·obtain rfl:=H1.out.2.2.1 rfl
   simp only[Option.isSome]
   go_wp2_with fail
   refine bodyPost_ret (settleC_ends rfl rfl) rfl ?_
   exact⟨none,_,HT.out.1.tell none (.stop H1.out.1),below_seq HT.out.2.2 H1.out.2.1,rfl,fun _=>rfl,fun nx e=>by cases e⟩
  ·obtain⟨hst,hb1,-,hs⟩:=H1.out
   obtain⟨hs1,hs2,hs3⟩:=hs nx rfl
   have HE:=EqN_any w1 nx tk u _ (by have:=HV.out.2.1.most;omega) (by rw[hs3,HT.out.1.ok.1]) hs1 (HT.out.2.1.below hb1)
   have h9:=hs1
   obtain⟨ad1,c1,hu⟩:=h9.len
   rw[hs3]at hu
   subst hu
   have H2:Hid (StepR l tk (some nx)∧Below w.heap.size w w1∧RowSl nuV w1 nx (.slice ad1 l.length c1)∧NewSl w.heap.size (.slice ad1 l.length c1)∧nx.length=l.length):=⟨hst,below_seq HT.out.2.2 hb1,hs1,hs2.mono HT.out.2.2.size,hs3⟩
   clear hst hb1 hs hs1 hs2 hs3 H1 h9
   simp only[Option.isSome]
   by_cases he:nx=tk
   ·rw[decide_eq_true he]at HE
    have HQ:Hid (nx=tk):=he
    clear he
    go_wp2_with (go_at_call 145;refine HE.mono ?_;rintro r w2 ⟨rfl,hb2⟩;have H4:Hid (Below w1.heap.size w1 w2):=hb2;clear hb2 HE)
    refine bodyPost_ret (settleC_ends rfl rfl) rfl ?_
    obtain⟨g1,g2,g3,g4,g5⟩:=H2.out
    refine⟨some nx,_,HT.out.1.tell _ ?_,below_seq g2 H4.out,rfl,(fun e=>by cases e),fun nx' e=>by cases e;exact⟨g3.below H4.out,g4,g5⟩⟩
    have hq:=HQ.out
    subst hq
    exact .fix g1
   ·rw[decide_eq_false he]at HE
    have HQ:Hid (nx≠tk):=he
    clear he
    go_wp2_with (go_at_call 145;refine HE.mono ?_;rintro r w2 ⟨rfl,hb2⟩;have H4:Hid (Below w1.heap.size w1 w2):=hb2;clear hb2 HE)
    obtain⟨g1,g2,g3,g4,g5⟩:=H2.out
    obtain⟨k1,k2⟩:=HT.out.1.next HV.out.2.1 g1 HQ.out
    refine⟨⟨_,_,_,rfl,rfl,⟨nx,k1,g3.below H4.out,below_seq g2 H4.out⟩⟩,?_⟩
    rw[rdN_row (g3.below H4.out),rdN_row HT.out.2.1]
    exact k2
theorem RespsC_ends{w:World}{g:Nat}{c k v:Value}{a:Act}(h:w.heap[g]?=some (.cells #[c,k] 33 (0,0)))(h2:a.tmps[2]?.getD undef=v)(h3:a.tmps[3]?.getD undef = .pointer (some ⟨g,0,none⟩)) :
  (results Tryz.f51 a.tmps).run Tryz.prog w = .ok (.tuple #[v,.agg #[c,k]]) w:=by
 obtain⟨c1,f1,l1⟩:=cells_of (l:=[_,_]) h
 have c10:=c1 0 _ rfl
 have c11:=c1 1 _ rfl
 simp[results,Tryz.results51,go_sem,h2,h3,c10,c11]
theorem cell_other{W:World}{p q:Addr}{u:Value}(h:q.block≠p.block):(W.setCell p u).cell? q=W.cell? q:=by
 simp only[World.cell?,Below.heap_setCell _ _ _ _ h]
theorem rowset2{W:World}{ts:List Int}{tv:Value}{g:Nat}(h:RowSl nuV W ts tv)(hn:∀a n c,tv = .slice (some a) n c→g<a.block)(x y:Value):RowSl nuV ((W.setCell ⟨g,0,none⟩ x).setCell ⟨g,1,none⟩ y) ts tv:=by
 obtain⟨ad,c,rfl,h1,h2,h3⟩:=h
 refine⟨ad,c,rfl,h1,h2,?_⟩
 rcases h3 with h3|⟨b,o,rfl,h3⟩
 ·exact .inl h3
 ·refine .inr ⟨b,o,rfl,fun q u hq=>?_⟩
  have hb:=hn _ _ _ rfl
  have h4:=h3 q u hq
  rw[cell_other (by dsimp at hb ⊢;omega),cell_other (by dsimp at hb ⊢;omega)]
  exact h4
def RespsR(l:List Pa)(ts:List Int)(e:Int × Int):Prop:=((chkP l).1≠0∧ts=[]∧e=chkP l)∨((chkP l).1=0∧∃res,Sett l (List.replicate l.length 0) res∧((res=none∧ts=[]∧e=(13,0))∨(res=some ts∧ts.length=l.length∧e=(0,0))))
def RespsPost(w:World)(l:List Pa)(r:Ending)(w':World):Prop:=∃ts e tv,RespsR l ts e∧r = .returned (.tuple #[tv,.agg #[.int .i64 e.1,.int .i64 e.2]])∧RowSl nuV w' ts tv∧Below w.heap.size w w'∧NewSl w.heap.size tv
theorem RespsR.one{l:List Pa}{a b:List Int}{e f:Int × Int}(h:RespsR l a e)(h':RespsR l b f):a=b∧e=f:=by
 rcases h with ⟨h1,rfl,rfl⟩|⟨h1,r,h2,h3⟩
 ·rcases h' with ⟨-,rfl,rfl⟩|⟨g1,-⟩
  ·exact⟨rfl,rfl⟩
  ·exact absurd g1 h1
 ·rcases h' with ⟨g1,-⟩|⟨-,s,g2,g3⟩
  ·exact absurd h1 g1
  ·cases h2.one g2
   rcases h3 with ⟨rfl,rfl,rfl⟩|⟨rfl,-,rfl⟩
   ·rcases g3 with ⟨-,rfl,rfl⟩|⟨e,-⟩
    ·exact⟨rfl,rfl⟩
    ·cases e
   ·rcases g3 with ⟨e,-⟩|⟨e,-,rfl⟩
    ·cases e
    ·cases e;exact⟨rfl,rfl⟩
set_option maxRecDepth 20000 in
set_option maxHeartbeats 4000000 in
theorem RespsC_any(w:World)(l:List Pa)(v:Value)(hv:RowSl Pa.vals w l v):Calls Tryz.prog 51 #[v] w (RespsPost w l):=by
 have HC:=CheckC_any ((w.alloc (.cells #[v] 61)).alloc (.cells #[.int .i64 0,.int .i64 0] 33)) l v ((hv.below (below_new _ _)).below (below_new _ _))
 obtain⟨z1,z2,hz⟩:∃z1 z2,chkP l=(z1,z2):=⟨_,_,rfl⟩
 have HZ:Hid (chkP l=(z1,z2)):=hz
 rw[hz]at HC
 dsimp only at HC
 obtain⟨ad,c,rfl⟩:=hv.len
 have HV:Hid (RowSl Pa.vals w l (.slice ad l.length c)):=hv
 clear hv hz
 have hF:Hid (FB (w.alloc (.cells #[.slice ad l.length c] 61)) ((w.alloc (.cells #[.slice ad l.length c] 61)).alloc (.cells #[.int .i64 0,.int .i64 0] 33)) (w.heap.size+1)):=by have h9:=FB.start (w.alloc (.cells #[.slice ad l.length c] 61));rwa[World.size_alloc]at h9
 have hA:Hid (((w.alloc (.cells #[.slice ad l.length c] 61)).alloc (.cells #[.int .i64 0,.int .i64 0] 33)).cell? ⟨w.heap.size,0,none⟩=some (.slice ad l.length c)):=below_cell (below_new _ _) ((cells_of (l:=[_]) (heap_alloc_new _ _)).1 0 _ rfl)
 go_enter Tryz.func51,Tryz.ntmps51
 go_upto_region 2 with (go_at_call 86;refine HC.mono ?_;rintro r w1 ⟨rfl,hb1⟩;have H1:Hid (FB (w.alloc (.cells #[.slice ad l.length c] 61)) (w1.alloc (.cells #[.int .i64 z1,.int .i64 z2] 33)) (w.heap.size+1)∧(w1.alloc (.cells #[.int .i64 z1,.int .i64 z2] 33)).cell? ⟨w.heap.size,0,none⟩=some (.slice ad l.length c)):=⟨(hF.out.grow hb1).grow (below_new _ _),below_cell (below_new _ _) (below_cell hb1 hA.out)⟩;have H0:Hid (w.heap.size+1<w1.heap.size):=(hF.out.grow hb1).lt;clear hb1 HC)
 obtain⟨fs,-,fl⟩:=cells_of (l:=[_,_]) (heap_alloc_new w1 (.cells #[.int .i64 z1,.int .i64 z2] 33))
 have g0:=fs 0 _ rfl
 have g1:=fs 1 _ rfl
 have hl1:w.heap.size+1<w1.heap.size:=H0.out
 have hbx:Hid (Below w.heap.size w (w.alloc (.cells #[.slice ad l.length c] 61))):=below_new _ _
 clear fs hF hA H0
 generalize w1.alloc (.cells #[.int .i64 z1,.int .i64 z2] 33)=w2 at *
 generalize w1.heap.size=gf at *
 generalize w.alloc (.cells #[.slice ad l.length c] 61)=wb at *
 by_cases h0:z1=0
 rotate_left 1
 ·have hz1:(z1 != 0)=true:=by simpa using h0
  obtain⟨q0,q1,qf0,qf1,ql⟩:=H1.out.1.res2
  have HN:Hid (z1≠0):=h0
  clear h0
  go_wp2_with fail
  go_region
  all_goals go_wp2_with fail
  all_goals
   refine bodyPost_ret (RespsC_ends (g:=w.heap.size+1) (c:=.int .i64 z1) (k:=.int .i64 z2) (v:=.slice none 0 0) (set_two H1.out.1.res) rfl rfl) rfl ?_
   exact⟨[],(z1,z2),_,.inl ⟨by rw[HZ.out];exact HN.out,rfl,HZ.out.symm⟩,rfl,RowSl.nil _ _,(below_seq hbx.out (H1.out.1.set _ _)).drew,NewSl.none _ _ _⟩
 ·subst h0
  have hok:=chkP_ok (l:=l) (by rw[HZ.out])
  have hbw:Below w.heap.size w w2:=below_seq hbx.out H1.out.1.bel
  have HS:=settleC_any w2 l _ w.heap.size hok H1.out.2 (HV.out.below hbw)
  have cb:=H1.out.2
  clear hok hbw
  go_upto_region 5 with (go_at_call 87;refine HS.mono ?_;rintro r w3 ⟨res,u,hr,hb3,rfl,hn,hs⟩;have H3:Hid (Sett l (List.replicate l.length 0) res∧Below w2.heap.size w2 w3∧(res=none→u = .slice none 0 0)∧∀nx,res=some nx→RowSl nuV w3 nx u∧NewSl w2.heap.size u∧nx.length=l.length):=⟨hr,hb3,hn,hs⟩;clear hr hb3 hn hs HS)
  have HB:Hid (FB wb w3 (w.heap.size+1)):=H1.out.1.grow H3.out.2.1
  obtain⟨q0,q1,qf0,qf1,ql⟩:=HB.out.res2
  clear cb g0 g1
  rcases res with _|nx
  ·obtain rfl:=H3.out.2.2.1 rfl
   simp only[Option.isSome]
   go_wp2_with fail
   refine bodyPost_ret (RespsC_ends (g:=w.heap.size+1) (c:=.int .i64 13) (k:=.int .i64 0) (v:=.slice none 0 0) (set_two HB.out.res) rfl rfl) rfl ?_
   exact⟨[],(13,0),_,.inr ⟨by rw[HZ.out],none,H3.out.1,.inl ⟨rfl,rfl,rfl⟩⟩,rfl,RowSl.nil _ _,below_seq hbx.out (HB.out.set _ _),NewSl.none _ _ _⟩
  ·obtain⟨s1,s2,s3⟩:=H3.out.2.2.2 nx rfl
   have H5:Hid (RowSl nuV w3 nx u∧NewSl w2.heap.size u∧nx.length=l.length):=⟨s1,s2,s3⟩
   obtain⟨ad1,c1,rfl⟩:=s1.len
   clear s1 s2 s3
   simp only[Option.isSome]
   go_wp2_with fail
   refine bodyPost_ret (RespsC_ends (g:=w.heap.size+1) (c:=.int .i64 0) (k:=.int .i64 0) (v:=.slice ad1 nx.length c1) (set_two HB.out.res) rfl rfl) rfl ?_
   have hsz:w.heap.size+1<w2.heap.size:=H1.out.1.lt
   refine⟨nx,(0,0),_,.inr ⟨by rw[HZ.out],some nx,H3.out.1,.inr ⟨rfl,H5.out.2.2,rfl⟩⟩,rfl,?_,below_seq hbx.out (HB.out.set _ _),H5.out.2.1.mono (by omega)⟩
   exact rowset2 H5.out.1 (fun a n c e=>Nat.lt_of_lt_of_le hsz (H5.out.2.1 a n c e)) _ _
theorem run_ends{w:World}{p q:Value}{a:Act}(h2:a.tmps[2]?.getD undef=p)(h3:a.tmps[3]?.getD undef=q):(results Tryz.f102 a.tmps).run Tryz.prog w = .ok (.tuple #[p,q]) w:=by
 simp[results,Tryz.results102,go_sem,h2,h3]
def RunPost(W:World)(g i:Nat)(v:Value)(p:Pc)(r:List Pc)(rr:Ending)(w':World):Prop:=∃W1 v',W.grownBy W1 v.ownBlock∧(∃z,LnR W1 v ({ p with lf:=z }::r))∧v'.ownBlock=v.ownBlock∧LnR W1 v' (runQ (p::r))∧rr = .returned (.tuple #[.int .i64 p.cm,.bool (runD (p::r))])∧((runD (p::r)=true∧w'=W1.setCell ⟨g,i,none⟩ v')∨(runD (p::r)=false∧v'=v∧w'=W1))
set_option maxRecDepth 20000 in
set_option maxHeartbeats 4000000 in
theorem run_any(W:World)(g i:Nat)(v:Value)(p:Pc)(r:List Pc)(hc:W.cell? ⟨g,i,none⟩=some v)(hf:W.frozen? ⟨g,i,none⟩=false)(hl:LnR W v (p::r))(hne:v.ownBlock≠some g)(h1:1≤p.lf)(h2:p.lf≤10000):Calls Tryz.prog 102 #[.pointer (some ⟨g,i,none⟩)] W (RunPost W g i v p r):=by
 obtain⟨gg,o,c,rfl,hcap,c0,c1,c2,cf,lg,hT,hS⟩:=hl.head
 obtain⟨hS1,hS2,hS3⟩:=hS (p.lf-1)
 have hgg:gg≠g:=fun e=>hne (by rw[e];rfl)
 have l2:=World.block_lt_of_cell? _ _ hc
 have hw:IntKind.i64.wrap (p.lf-1)=p.lf-1:=by rw[IntKind.wrap_i64];omega
 have HS:Hid (LnR (W.setCell ⟨gg,o+2,none⟩ (.int .i64 (p.lf-1))) (.slice (some ⟨gg,o,none⟩) (r.length+1) c) ({ p with lf:=p.lf-1 }::r)∧W.grownBy (W.setCell ⟨gg,o+2,none⟩ (.int .i64 (p.lf-1))) (some gg)∧LnR (W.setCell ⟨gg,o+2,none⟩ (.int .i64 (p.lf-1))) (.slice (if c=1 then some ⟨gg,o,none⟩ else some ⟨gg,o+3,none⟩) r.length (c-1)) r):=⟨hS1,hS2,hS3⟩
 clear hS hS1 hS2 hS3 hT hl hne
 obtain⟨cm,si,lf⟩:=p
 dsimp only at *
 have hr0:(0:Int)<((r.length+1:Nat):Int):=by omega
 have hr1:(1:Int)≤((r.length+1:Nat):Int):=by omega
 have hr4:(1:Int)≤(r.length:Int)+1:=by omega
 have hr5:(0:Int)<(r.length:Int)+1:=by omega
 have hr2:1≤r.length+1:=by omega
 have hr3:1≤c:=by omega
 by_cases hlf:0<lf-1
 ·have e:Hid (runD (⟨cm,si,lf⟩::r)=false):=by
   show(!decide (0<lf-1))=false
   rw[decide_eq_true hlf];rfl
  have e2:Hid (runQ (⟨cm,si,lf⟩::r)=⟨cm,si,lf-1⟩::r):=if_pos hlf
  go_enter Tryz.func102,Tryz.ntmps102
  go_wp2_with fail
  refine bodyPost_ret (run_ends (p:=.int .i64 cm) (q:=.bool false) rfl rfl) rfl ?_
  exact⟨_,_,HS.out.2.1,⟨_,HS.out.1⟩,rfl,by rw[e2.out];exact HS.out.1,by rw[e.out],.inr ⟨e.out,rfl,rfl⟩⟩
 ·have e:Hid (runD (⟨cm,si,lf⟩::r)=true):=by
   show(!decide (0<lf-1))=true
   rw[decide_eq_false hlf];rfl
  have e2:Hid (runQ (⟨cm,si,lf⟩::r)=r):=if_neg hlf
  by_cases e1:c=1
  ·subst e1
   have hrn:r=[]:=List.eq_nil_of_length_eq_zero (by omega)
   subst hrn
   clear hr0 hr1 hr4 hr5 hr2 hr3 hcap
   have HT:Hid (LnR (W.setCell ⟨gg,o+2,none⟩ (.int .i64 (lf-1))) (.slice (some ⟨gg,o,none⟩) 0 0) []):=by
    have h9:=HS.out.2.2
    rw[if_pos rfl]at h9
    exact h9
   go_enter Tryz.func102,Tryz.ntmps102
   go_wp2_with fail
   refine bodyPost_ret (run_ends (p:=.int .i64 cm) (q:=.bool true) rfl rfl) rfl ?_
   exact⟨_,.slice (some ⟨gg,o,none⟩) 0 0,HS.out.2.1,⟨_,HS.out.1⟩,rfl,by rw[e2.out];exact HT.out,by rw[e.out],.inl ⟨e.out,rfl⟩⟩
  ·have HT:Hid (LnR (W.setCell ⟨gg,o+2,none⟩ (.int .i64 (lf-1))) (.slice (some ⟨gg,o+3,none⟩) r.length (c-1)) r):=by
    have h9:=HS.out.2.2
    rw[if_neg e1]at h9
    exact h9
   go_enter Tryz.func102,Tryz.ntmps102
   go_wp2_with fail
   refine bodyPost_ret (run_ends (p:=.int .i64 cm) (q:=.bool true) rfl rfl) rfl ?_
   exact⟨_,.slice (some ⟨gg,o+3,none⟩) r.length (c-1),HS.out.2.1,⟨_,HS.out.1⟩,rfl,by rw[e2.out];exact HT.out,by rw[e.out],.inl ⟨e.out,rfl⟩⟩
set_option maxRecDepth 20000 in
set_option maxHeartbeats 4000000 in
theorem wk_any(W:World)(l:List Pa)(tk:List Int)(pv tv:Value)(gp gt part cm:Nat)(hp:W.cell? ⟨gp,0,none⟩=some pv)(ht:W.cell? ⟨gt,0,none⟩=some tv)(hv:RowSl Pa.vals W l pv)(htv:RowSl nuV W tk tv)(hok:PsOk l)(hpt:part<l.length)(hcm:cm≤100000)(hlt:tk.length≤1000000)(htk:∀z∈tk,0≤z):Calls Tryz.prog 96 #[.int .i64 (part:Int),.int .i64 (cm:Int),.pointer (some ⟨gt,0,none⟩),.pointer (some ⟨gp,0,none⟩)] W fun r w'=>r = .returned (.int .i64 (wkF l tk part cm))∧Below W.heap.size W w':=by
 obtain⟨ad,c,rfl,-,hcap,hrow⟩:=hv
 rcases hrow with h|⟨b,o,rfl,hrow⟩
 ·rw[h]at hpt;simp at hpt
 obtain⟨x,hx⟩:∃x,l[part]?=some x:=⟨_,List.getElem?_eq_getElem hpt⟩
 obtain⟨y0,y1,y2,y3,y4,y5,y6⟩:=pa7_at hrow hx
 have hxd:l.getD part paZ=x:=getD_some hx
 have hpo:=hok.at_ part x hx
 have k1:=hpo.c
 have k2:=hpo.cd
 have k3:=hpo.dt
 have k4:=hpo.t
 obtain⟨wz,hwz⟩:∃wz,wkF l tk part cm=wz:=⟨_,rfl⟩
 have HWZ:Hid (wkF l tk part cm=wz):=hwz
 have HX:Hid (l.getD part paZ=x):=hxd
 have h8:=hok.most
 rw[hwz]
 obtain⟨at',ct,rfl,hnil,hct,htr⟩:=htv
 have lp:=World.block_lt_of_cell? _ _ hp
 have lt:=World.block_lt_of_cell? _ _ ht
 have lb:=World.block_lt_of_cell? _ _ y3
 have hpi:(part:Int)<(l.length:Int):=by omega
 obtain⟨xco,xfr,xse,xc,xt,xd,xp⟩:=x
 dsimp only at *
 clear hrow y0 y1 y2 y4 y5 y6 hx hok hpo hwz hxd
 by_cases h0:tk.length=0
 ·have hb:((tk.length:Int) == 0)=true:=by simp[h0]
  have hz:wz=xc:=by
   rw[← HWZ.out]
   unfold wkF
   rw[if_pos h0,HX.out]
  subst hz
  clear HWZ HX htr hnil
  go_enter Tryz.func96,Tryz.ntmps96
  rw[h0]at ht
  go_wp2_with fail
  go_ret
  exact⟨rfl,Below.refl _ _⟩
 rcases htr with h|⟨bt,ot,rfl,htr⟩
 ·rw[h]at h0;simp at h0
 have hb:((tk.length:Int) == 0)=false:=by simpa using h0
 obtain⟨ix,hix⟩:∃ix,(cm*l.length+part) % tk.length=ix:=⟨_,rfl⟩
 have hixl:ix<tk.length:=by rw[← hix];exact Nat.mod_lt _ (by omega)
 obtain⟨tz,htz⟩:∃tz,tk[ix]?=some tz:=⟨_,List.getElem?_eq_getElem hixl⟩
 have z0:=nu_at htr htz
 have htz0:=htk tz (List.mem_of_getElem? htz)
 have hz:wz=1+tz % xc:=by
  rw[← HWZ.out]
  unfold wkF
  rw[if_neg h0,HX.out,hix,getD_some htz]
 have hn8:cm*l.length≤100000*8:=Nat.mul_le_mul hcm h8
 have e1:IntKind.i64.wrap ((cm:Int)*(l.length:Int))=((cm*l.length:Nat):Int):=by
  rw[← Int.natCast_mul,IntKind.wrap_i64];omega
 have e2:IntKind.i64.wrap (((cm*l.length:Nat):Int)+(part:Int))=((cm*l.length+part:Nat):Int):=by
  rw[IntKind.wrap_i64];omega
 have e3:((cm*l.length+part:Nat):Int).tmod (tk.length:Int)=(ix:Int):=by
  rw[Int.tmod_eq_emod_of_nonneg (by omega),← hix];rfl
 have e4:IntKind.i64.wrap (ix:Int)=(ix:Int):=by rw[IntKind.wrap_i64];omega
 have hm0:=Int.emod_nonneg tz (show xc≠0 by omega)
 have hm1:=Int.emod_lt_of_pos tz (show 0<xc by omega)
 have e5:tz.tmod xc=tz % xc:=Int.tmod_eq_emod_of_nonneg htz0
 have e6:IntKind.i64.wrap (tz % xc)=tz % xc:=by rw[IntKind.wrap_i64];omega
 have e7:IntKind.i64.wrap (1+tz % xc)=1+tz % xc:=by rw[IntKind.wrap_i64];omega
 have hix2:(ix:Int)<(tk.length:Int):=by omega
 have hc0:¬ xc=0:=by omega
 have ht0:¬ (tk.length:Int)=0:=by omega
 have lbt:=World.block_lt_of_cell? _ _ z0
 subst hz
 have hp0:=hp
 clear HWZ HX htr hnil htz hix hp
 generalize tz % xc=tm at *
 generalize cm*l.length+part=q2 at *
 generalize cm*l.length=q1 at *
 go_enter Tryz.func96,Tryz.ntmps96
 go_upto_region 3 with fail
 refine wp_region_noPanic ?_
 refine wp_region_held_drew (S:=fun w'=>w'.cell? ⟨gt,0,none⟩=some (.slice (some ⟨bt,ot,none⟩) tk.length ct)∧w'.cell? ⟨gp,0,none⟩=some (.slice (some ⟨b,o,none⟩) l.length c)∧w'.cell? ⟨bt,ot+ix,none⟩=some (.int .i64 tz)∧w'.cell? ⟨b,o+part*7+3,none⟩=some (.int .i64 xc)) (by kernel_rfl) ⟨ht,hp0,z0,y3⟩ (fun hHeld=>?_)
 refine tqGLa0 (i:=0) (n:=15) (v:=?_) ?_ ?_
 rotate_left 1
 ·intro wz hSw
  obtain⟨s0,s1,s2,s3⟩:=hSw
  first|(go_simp;done)|(go_simp;with_reducible rfl)
 simp only[ls0,ls1]
 refine tqGLa0 (i:=1) (n:=16) (v:=?_) ?_ ?_
 rotate_left 1
 ·intro wz hSw
  obtain⟨s0,s1,s2,s3⟩:=hSw
  first|(go_simp;done)|(go_simp;with_reducible rfl)
 simp only[ls0,ls1]
 refine tqGLa0 (i:=2) (n:=17) (v:=?_) ?_ ?_
 rotate_left 1
 ·intro wz hSw
  obtain⟨s0,s1,s2,s3⟩:=hSw
  first|(go_simp;done)|(go_simp;with_reducible rfl)
 simp only[ls0,ls1]
 refine tqGLa0 (i:=3) (n:=18) (v:=?_) ?_ ?_
 rotate_left 1
 ·intro wz hSw
  obtain⟨s0,s1,s2,s3⟩:=hSw
  first|(go_simp;done)|(go_simp;with_reducible rfl)
 simp only[ls0,ls1]
 refine tqGLa0 (i:=4) (n:=19) (v:=?_) ?_ ?_
 rotate_left 1
 ·intro wz hSw
  obtain⟨s0,s1,s2,s3⟩:=hSw
  first|(go_simp;done)|(go_simp;with_reducible rfl)
 simp only[ls0,ls1]
 refine tqGLa0 (i:=5) (n:=20) (v:=?_) ?_ ?_
 rotate_left 1
 ·intro wz hSw
  obtain⟨s0,s1,s2,s3⟩:=hSw
  first|(go_simp;done)|(go_simp;with_reducible rfl)
 simp only[ls0,ls1]
 refine tqGLa0 (i:=6) (n:=21) (v:=?_) ?_ ?_
 rotate_left 1
 ·intro wz hSw
  obtain⟨s0,s1,s2,s3⟩:=hSw
  first|(go_simp;done)|(go_simp;with_reducible rfl)
 simp only[ls0,ls1]
 refine tqGLa0 (i:=7) (n:=22) (v:=?_) ?_ ?_
 rotate_left 1
 ·intro wz hSw
  obtain⟨s0,s1,s2,s3⟩:=hSw
  first|(go_simp;done)|(go_simp;with_reducible rfl)
 simp only[ls0,ls1]
 refine tqGLa0 (i:=8) (n:=23) (v:=?_) ?_ ?_
 rotate_left 1
 ·intro wz hSw
  obtain⟨s0,s1,s2,s3⟩:=hSw
  first|(go_simp;done)|(go_simp;with_reducible rfl)
 simp only[ls0,ls1]
 refine tqGLa0 (i:=9) (n:=24) (v:=?_) ?_ ?_
 rotate_left 1
 ·intro wz hSw
  obtain⟨s0,s1,s2,s3⟩:=hSw
  first|(go_simp;done)|(go_simp;with_reducible rfl)
 simp only[ls0,ls1]
 refine tqGLa0 (i:=10) (n:=25) (v:=?_) ?_ ?_
 rotate_left 1
 ·intro wz hSw
  obtain⟨s0,s1,s2,s3⟩:=hSw
  first|(go_simp;done)|(go_simp;with_reducible rfl)
 simp only[ls0,ls1]
 refine tqGLa0 (i:=11) (n:=26) (v:=?_) ?_ ?_
 rotate_left 1
 ·intro wz hSw
  obtain⟨s0,s1,s2,s3⟩:=hSw
  first|(go_simp;done)|(go_simp;with_reducible rfl)
 simp only[ls0,ls1]
 refine tqGLa0 (i:=12) (n:=27) (v:=?_) ?_ ?_
 rotate_left 1
 ·intro wz hSw
  obtain⟨s0,s1,s2,s3⟩:=hSw
  first|(go_simp;done)|(go_simp;with_reducible rfl)
 simp only[ls0,ls1]
 refine tqGLa0 (i:=13) (n:=28) (v:=?_) ?_ ?_
 rotate_left 1
 ·intro wz hSw
  obtain⟨s0,s1,s2,s3⟩:=hSw
  first|(go_simp;done)|(go_simp;with_reducible rfl)
 simp only[ls0,ls1]
 refine tqGLa0 (i:=14) (n:=29) (v:=?_) ?_ ?_
 rotate_left 1
 ·intro wz hSw
  obtain⟨s0,s1,s2,s3⟩:=hSw
  first|(go_simp;done)|(go_simp;with_reducible rfl)
 simp only[ls0,ls1]
 refine tqGLa0 (i:=15) (n:=30) (v:=?_) ?_ ?_
 rotate_left 1
 ·intro wz hSw
  obtain⟨s0,s1,s2,s3⟩:=hSw
  first|(go_simp;done)|(go_simp;with_reducible rfl)
 simp only[ls0,ls1]
 refine tqGLa0 (i:=16) (n:=31) (v:=?_) ?_ ?_
 rotate_left 1
 ·intro wz hSw
  obtain⟨s0,s1,s2,s3⟩:=hSw
  first|(go_simp;done)|(go_simp;with_reducible rfl)
 simp only[ls0,ls1]
 refine tqGLa0 (i:=17) (n:=32) (v:=?_) ?_ ?_
 rotate_left 1
 ·intro wz hSw
  obtain⟨s0,s1,s2,s3⟩:=hSw
  first|(go_simp;done)|(go_simp;with_reducible rfl)
 simp only[ls0,ls1]
 refine tqGLa0 (i:=18) (n:=33) (v:=?_) ?_ ?_
 rotate_left 1
 ·intro wz hSw
  obtain⟨s0,s1,s2,s3⟩:=hSw
  first|(go_simp;done)|(go_simp;with_reducible rfl)
 simp only[ls0,ls1]
 refine tqGLa0 (i:=19) (n:=6) (v:=?_) ?_ ?_
 rotate_left 1
 ·intro wz hSw
  obtain⟨s0,s1,s2,s3⟩:=hSw
  first|(go_simp;done)|(go_simp;with_reducible rfl)
 simp only[ls0,ls1]
 refine wpAnyH_done (by kernel_rfl) ?_ _
 refine NoPanic.normal ?_
 clear hHeld
 go_wp2_with fail
 go_ret
 exact⟨rfl,(Below.refl _ _).drew⟩
section
variable {P:Program} {ops:Array Oper} {Q:Exit→Act→World→Prop} {md:Region.Mode} {S:World→Prop} {L:Nat}
def shutB(md:Region.Mode)(ops:Array Oper)(l:Array Bool):Bool :=
 (List.range ops.size).all fun k=>!l.getD k false || match ops[k]? with
  | some o=>o.after.all fun e=>!Region.binds md e || l.getD e.on false
  | none=>true
def ShutP(md:Region.Mode)(ops:Array Oper)(l:Array Bool):Prop :=
 ∀k o,ops[k]?=some o→l.getD k false=true→∀e∈o.after,Region.binds md e=true→l.getD e.on false=true
theorem shut_spec{l:Array Bool}(h:shutB md ops l=true):ShutP md ops l:=fun k o hk hl e he hb=>by
 simp only[shutB,List.all_eq_true,List.mem_range]at h
 have h1:=h k (Array.getElem?_eq_some_iff.1 hk).1
 simp only[hk,hl,Bool.not_true,Bool.false_or]at h1
 have h2:=Array.all_eq_true_iff_forall_mem.1 h1 e he
 simpa[hb] using h2
theorem shut_set{l:Array Bool}{j:Nat}(h:ShutP md ops l)(hj:j∈Region.ready md ops l):ShutP md ops (l.setIfInBounds j true):=fun k o hk hl e he hb=>by
 by_cases hkj:j=k
 ·subst hkj
  obtain⟨-,o',ho',hall⟩:=mem_ready.1 hj
  rw[hk]at ho';cases ho'
  exact getD_set_true (hall e he hb)
 ·rw[getD_set_ne false hkj]at hl
  exact getD_set_true (h k o hk hl e he hb)
def lastB(md:Region.Mode)(ops:Array Oper)(L:Nat):Bool :=
 L+1 == ops.size && (List.range L).all fun i=>(List.range (L+1)).any fun j=>decide (i<j) && match ops[j]? with
  | some o=>o.after.any fun e=>Region.binds md e && e.on == i
  | none=>false
theorem last_spec{l:Array Bool}(hL:lastB md ops L=true)(h:ShutP md ops l)(hr:L∈Region.ready md ops l):∀(d i:Nat),i<L→L-i≤d→l.getD i false=true
 | 0,i,hi,hd=>by omega
 | d+1,i,hi,hd=>by
  simp only[lastB,Bool.and_eq_true,List.all_eq_true,List.mem_range,List.any_eq_true,decide_eq_true_eq]at hL
  obtain⟨j,hj,hij,hm⟩:=hL.2 i hi
  cases ho:ops[j]? with
  | none=>simp[ho]at hm
  | some o =>
   simp only[ho]at hm
   obtain⟨e,he,hb⟩:=Array.any_eq_true'.1 hm
   simp only[Bool.and_eq_true,beq_iff_eq]at hb
   rw[← hb.2]
   by_cases hjL:j=L
   ·subst hjL
    obtain⟨-,o',ho',hall⟩:=mem_ready.1 hr
    rw[ho]at ho';cases ho'
    exact hall e he hb.1
   ·exact h j o ho (last_spec (by simp only[lastB,Bool.and_eq_true,List.all_eq_true,List.mem_range,List.any_eq_true,decide_eq_true_eq];exact hL) h hr d j (by omega) (by omega)) e he hb.1
def wpAnyL(P:Program)(md:Region.Mode)(ops:Array Oper)(Q:Exit→Act→World→Prop)(S:World→Prop)(L:Nat):Nat→Array Bool→Act→World→Prop
 | 0,l,a,w=>Region.ready md ops l=[]∧Q .normal a w
 | f+1,l,a,w=>(Region.ready md ops l=[]→Q .normal a w)∧∀i∈Region.ready md ops l,wpOp P ops Q i (fun a' w'=>(i≠L→S w')∧wpAnyL P md ops Q S L f (l.setIfInBounds i true) a' w') a w
theorem wpAnyL.any:∀(f:Nat) (l:Array Bool) (a:Act) (w:World),wpAnyL P md ops Q S L f l a w→wpAny P md ops Q f l a w
 | 0,_,_,_,h=>h
 | f+1,_,_,_,h=>⟨h.1,fun i hi=>wpOp_mono (fun a' w' h'=>wpAnyL.any f _ a' w' h'.2) (h.2 i hi)⟩
theorem wpAnyL_first{i:Nat}{oi:Oper}{v:Value}(hi:ops[i]?=some oi)(hsel:∀(j:Nat) (o:Oper) cs b,ops[j]?=some o→o.op≠.select cs b)
  (hQ:∀c a w,Q (.panic c) (a.put oi.dst v) w→Q (.panic c) a w) (hL:lastB md ops L=true) (hiL:i<L) :
  ∀(f:Nat) (l:Array Bool) (a:Act) (w:World),ShutP md ops l →
   (∀j oj,ops[j]?=some oj→j≠i→l.getD j true=false→(∀e∈oj.after,Region.binds md e=true→e.on≠i)→oi.apart ops oj=true) →
   i∈Region.ready md ops l→YieldsIf P ops S oi v a→S w →
   wpAnyL P md ops Q S L f (l.setIfInBounds i true) (a.put oi.dst v) w→wpAnyL P md ops Q S L (f+1) l a w
 | f,l,a,w=>fun hsh hfree hr hy hS H=>by
  refine⟨fun h=>(by rw[h]at hr;cases hr),fun j hj=>?_⟩
  by_cases hji:j=i
  ·subst hji;exact hy.wpOp hi hS ⟨fun _=>hS,H⟩
  have h0:=(mem_ready.1 hr).1
  have hjL:j≠L:=fun e=>by
   subst e
   have h1:=last_spec hL hsh hj (j-i) i hiL (Nat.le_refl _)
   rcases Nat.lt_or_ge i l.size with h'|h'
   ·simp[h']at h0 h1;rw[h0]at h1;cases h1
   ·simp[Array.getElem?_eq_none h']at h1
  cases f with
  | zero =>
   have:=ready_mono hj hji
   rw[H.1]at this
   cases this
  | succ f =>
   obtain⟨hjun,oj,hoj,hall⟩:=mem_ready.1 hj
   have hnot:∀e∈oj.after,Region.binds md e=true→e.on≠i:=fun e he hb heq=>by
    have h1:=hall e he hb
    rw[heq]at h1
    rcases Nat.lt_or_ge i l.size with h'|h'
    ·simp[h']at h0 h1;rw[h0]at h1;cases h1
    ·simp[Array.getElem?_eq_none h']at h1
   refine wpOp_mono (fun a' w' h3=>?_) (wpOp_putIf hoj (hfree j oj hoj hji hjun hnot) (fun cs b=>hsel i oi cs b hi) (fun cs b=>hsel j oj cs b hoj) hQ hy (H.2 j (ready_mono hj hji)))
   refine⟨h3.2.1,wpAnyL_first hi hsel hQ hL hiL f (l.setIfInBounds j true) a' w' (shut_set hsh hj) (fun k ok hk hki hun hno=>?_) (ready_mono hr (Ne.symm hji)) h3.1 (h3.2.1 hjL) (by rw[Array.setIfInBounds_comm _ _ hji];exact h3.2.2)⟩
   refine hfree k ok hk hki ?_ hno
   by_cases hjk:j=k
   ·subst hjk;exact hjun
   ·rw[getD_set_ne true hjk]at hun;exact hun
theorem takeL_at{i n:Nat}{oi:Oper}{v:Value}{f:Nat}{l:Array Bool}{xs:List Value}{ds:List Deferred}{w:World}
  (hi:ops[i]?=some oi) (hd:oi.dst=some n) (hs:Region.noSelect ops=true) (hL:lastB md ops L=true) (hiL:i<L) (hsh:shutB md ops l=true) (hf:Region.free md ops l i=true) (hr:(Region.ready md ops l).contains i=true)
  (hQ:∀c a w,Q (.panic c) (a.put oi.dst v) w→Q (.panic c) a w) (hy:YieldsIf P ops S oi v ⟨xs.toArray,ds⟩) (hS:S w)
  (h:wpAnyL P md ops Q S L f (l.setIfInBounds i true) ⟨(xs.set n v).toArray,ds⟩ w):wpAnyL P md ops Q S L (f+1) l ⟨xs.toArray,ds⟩ w:=by
 refine wpAnyL_first hi (Region.noSelect_spec hs) hQ hL hiL f l _ w (shut_spec hsh) (Region.free_spec hi hf) (by simpa using hr) hy hS ?_
 have e:Act.put ⟨xs.toArray,ds⟩ oi.dst v=⟨(xs.set n v).toArray,ds⟩:=by rw[hd];simp[Act.put]
 rw[e]
 exact h
theorem tkL{i n:Nat}{oi:Oper}{v:Value}{f:Nat}{l:Array Bool}{xs:List Value}{ds:List Deferred}{w:World}
  (hy:∀w,S w→(execOp (Act.eval ⟨xs.toArray,ds⟩) oi).run P w = .ok (.value v) w) (h:wpAnyL P md ops Q S L f (l.setIfInBounds i true) ⟨(xs.set n v).toArray,ds⟩ w)
  (hi:ops[i]?=some oi:=by rfl) (hd:oi.dst=some n:=by rfl) (hs:Region.noSelect ops=true:=by kernel_rfl) (hL:lastB md ops L=true:=by kernel_rfl) (hiL:i<L:=by decide) (hsh:shutB md ops l=true:=by kernel_rfl) (hf:Region.free md ops l i=true:=by kernel_rfl) (hr:(Region.ready md ops l).contains i=true:=by kernel_rfl)
  (hQ:∀c a w,Q (.panic c) (a.put oi.dst v) w→Q (.panic c) a w:=by exact fun _ _ _ h=>h) (hg:Region.wanted oi (yielded ops xs.toArray)=true:=by rfl) (hS:S w:=by assumption):wpAnyL P md ops Q S L (f+1) l ⟨xs.toArray,ds⟩ w :=
 takeL_at hi hd hs hL hiL hsh hf hr hQ (.inl ⟨hg,hy⟩) hS h
theorem wpAnyL_one{i:Nat}{o:Oper}{f:Nat}{l:Array Bool}{a:Act}{w:World}(hr:Region.ready md ops l=[i])(ho:ops[i]?=some o)
  (h:∀K':Act→World→Prop,Shut (∀a w,(i≠L→S w)→wpAnyL P md ops Q S L f (l.setIfInBounds i true) a w→K' a w)→if Region.wanted o (yielded ops a.tmps)=true then Oper.wp P o a w K' Q else K' (a.put o.dst undef) w):wpAnyL P md ops Q S L (f+1) l a w :=
 ⟨(fun h0=>absurd (hr.symm.trans h0) (by simp)),fun j hj=>by
  rw[hr,List.mem_singleton]at hj
  subst hj
  exact wpOp_step ho (fun K' hK=>h K' (fun a w hS hW=>hK a w ⟨hS,hW⟩))⟩
theorem wpAnyL_done{l:Array Bool}{a:Act}{w:World}(hr:Region.ready md ops l=[])(h:Q .normal a w):∀f,wpAnyL P md ops Q S L f l a w
 | 0=>⟨hr,h⟩
 | _+1=>⟨fun _=>h,by rw[hr];simp⟩
theorem wp_region_last{id:Nat}{a:Act}{w:World}(hm:P.follows .mixedOrders=true)
  (h:wpAnyL P .any ops Q S L ops.size (Array.replicate ops.size false) a w.drew):(Code.region id ops true).wp P Q a w :=
 wp_region_any hm (h.any _ _ _ _)
end
end Go.Proofs.YtccoobcggbbcialGreatDoor
