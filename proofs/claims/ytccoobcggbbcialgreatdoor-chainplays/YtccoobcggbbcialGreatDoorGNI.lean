import Derived.Deep.CutRange
import Derived.Deep.CutBlock
import Derived.Test.YtccoobcggbbcialGreatDoorGNH
namespace Go.Proofs.YtccoobcggbbcialGreatDoor
open Go.ChangeShapes Go.WideShapes Go.ChangeAt Go.RowKit
theorem worstN_ends{w:World}{a:Act}{x y:Value}(h1:a.tmps[4]?.getD undef=x)(h2:a.tmps[5]?.getD undef=y):(results Tryz.f214 a.tmps).run Tryz.prog w = .ok (.tuple #[x,y]) w:=by
 simp[results,Tryz.results214,go_sem,h1,h2]
theorem RowSl.dropF{w:World}{l:List Fr}{b o c:Nat}(h:RowSl Fr.vals w l (.slice (some ⟨b,o,none⟩) l.length c))(k:Nat)(hk:k≤l.length):RowSl Fr.vals w (l.drop k) (.slice (if c=k then some ⟨b,o,none⟩ else some ⟨b,o+k*4,none⟩) (l.length-k) (c-k)):=by
 obtain⟨ad,c',e,-,hcap,hr⟩:=h
 cases e
 refine⟨if c=k then some ⟨b,o,none⟩ else some ⟨b,o+k*4,none⟩,c-k,by rw[List.length_drop],fun h=>by(by_cases e:c=k<;>simp[e]at h),by rw[List.length_drop];omega,?_⟩
 by_cases hkl:k=l.length
 ·left;rw[hkl,List.drop_length]
 ·right
  have hck:¬ c=k:=by omega
  refine⟨b,o+k*4,by rw[if_neg hck],fun q u hq=>?_⟩
  rcases hr with hr|⟨b',o',e,hr⟩
  ·exfalso;subst hr;simp at hk;exact hkl (by simpa using hk)
  ·cases e
   rw[Nat.add_assoc]
   refine hr _ u ?_
   rw[← hq]
   conv=>lhs;rw[← List.take_append_drop k l,List.flatMap_append]
   rw[List.getElem?_append_right (by rw[flat_length Fr.vals 4 Fr.len,List.length_take];omega),flat_length Fr.vals 4 Fr.len,List.length_take]
   congr 1
   omega
structure RgN (W0 W:World) (a b c:Option Nat):Prop where
 bel:Below W0.heap.size W0 W
 ha:∀g,a=some g→W.heap[g]?=some (.cells #[.int .i64 0,.int .i64 0,.int .i64 0,.int .i64 0] 240 (0,0))∧W0.heap.size≤g
 hb:∀g,b=some g→W.heap[g]?=some (.cells #[.slice none 0 0] 238 (0,0))∧W0.heap.size≤g
 hc:∀g,c=some g→W.heap[g]?=some (.cells #[.int .i64 0] 3 (0,0))∧W0.heap.size≤g
 dab:∀g h,a=some g→b=some h→g≠h
 dac:∀g h,a=some g→c=some h→g≠h
 dbc:∀g h,b=some g→c=some h→g≠h
section
variable {W0 W W':World} {a b c:Option Nat}
theorem RgN.start(W0:World):RgN W0 W0 none none none:=⟨Below.refl _ _,nofun,nofun,nofun,nofun,nofun,nofun⟩
theorem ltH{W:World}{g:Nat}{o:Obj}(h:W.heap[g]?=some o):g<W.heap.size:=(Array.getElem?_eq_some_iff.1 h).1
theorem RgN.grow(h:RgN W0 W a b c)(hb:Below W.heap.size W W'):RgN W0 W' a b c :=
 ⟨below_seq h.bel hb,fun g e=>⟨(hb.block g (ltH (h.ha g e).1)).trans (h.ha g e).1,(h.ha g e).2⟩,fun g e=>⟨(hb.block g (ltH (h.hb g e).1)).trans (h.hb g e).1,(h.hb g e).2⟩,fun g e=>⟨(hb.block g (ltH (h.hc g e).1)).trans (h.hc g e).1,(h.hc g e).2⟩,h.dab,h.dac,h.dbc⟩
theorem RgN.addA(h:RgN W0 W none b c)(hb:Below W.heap.size W W'){g:Nat}(hg:W.heap.size≤g)(hh:W'.heap[g]?=some (.cells #[.int .i64 0,.int .i64 0,.int .i64 0,.int .i64 0] 240 (0,0))):RgN W0 W' (some g) b c:=by
 have h':=h.grow hb
 have hs:=h.bel.size
 refine⟨h'.bel,?_,?_,?_,?_,?_,?_⟩
 ·exact fun q e=>by cases e;exact⟨hh,by omega⟩
 ·exact h'.hb
 ·exact h'.hc
 ·exact fun q x e e'=>by cases e;have:=ltH (h.hb x e').1;omega
 ·exact fun q x e e'=>by cases e;have:=ltH (h.hc x e').1;omega
 ·exact h'.dbc
theorem RgN.addB(h:RgN W0 W a none c)(hb:Below W.heap.size W W'){g:Nat}(hg:W.heap.size≤g)(hh:W'.heap[g]?=some (.cells #[.slice none 0 0] 238 (0,0))):RgN W0 W' a (some g) c:=by
 have h':=h.grow hb
 have hs:=h.bel.size
 refine⟨h'.bel,?_,?_,?_,?_,?_,?_⟩
 ·exact h'.ha
 ·exact fun q e=>by cases e;exact⟨hh,by omega⟩
 ·exact h'.hc
 ·exact fun q x e e'=>by cases e';have:=ltH (h.ha q e).1;omega
 ·exact h'.dac
 ·exact fun q x e e'=>by cases e;have:=ltH (h.hc x e').1;omega
theorem RgN.addC(h:RgN W0 W a b none)(hb:Below W.heap.size W W'){g:Nat}(hg:W.heap.size≤g)(hh:W'.heap[g]?=some (.cells #[.int .i64 0] 3 (0,0))):RgN W0 W' a b (some g):=by
 have h':=h.grow hb
 have hs:=h.bel.size
 refine⟨h'.bel,?_,?_,?_,?_,?_,?_⟩
 ·exact h'.ha
 ·exact h'.hb
 ·exact fun q e=>by cases e;exact⟨hh,by omega⟩
 ·exact h'.dab
 ·exact fun q x e e'=>by cases e';have:=ltH (h.ha q e).1;omega
 ·exact fun q x e e'=>by cases e';have:=ltH (h.hb q e).1;omega
end
structure WstW (w W:World) (l:List Fr) (lv dv:Value) (i:Nat) (m:Fr) (h:Int) (a b c:Nat):Prop where
 bel:Below w.heap.size w W
 lb:W.heap[w.heap.size]?=some (.cells #[lv] 238 (0,0))
 ib:W.heap[w.heap.size+1]?=some (.cells #[.int .i64 (i:Int)] 3 (0,0))
 ha:W.heap[a]?=some (.cells #[.int .i64 m.c,.int .i64 m.t,.int .i64 m.d,.int .i64 m.j] 240 (0,0))
 hb:W.heap[b]?=some (.cells #[dv] 238 (0,0))
 hc:W.heap[c]?=some (.cells #[.int .i64 h] 3 (0,0))
 low:w.heap.size+2≤a∧w.heap.size+2≤b∧w.heap.size+2≤c
 ds:a≠b∧a≠c∧b≠c
theorem WstW.grow{w W W':World}{l:List Fr}{lv dv:Value}{i:Nat}{m:Fr}{h:Int}{a b c:Nat}(x:WstW w W l lv dv i m h a b c)(hb:Below W.heap.size W W'):WstW w W' l lv dv i m h a b c :=
 ⟨below_seq x.bel hb,(hb.block _ (ltH x.lb)).trans x.lb,(hb.block _ (ltH x.ib)).trans x.ib,(hb.block _ (ltH x.ha)).trans x.ha,(hb.block _ (ltH x.hb)).trans x.hb,(hb.block _ (ltH x.hc)).trans x.hc,x.low,x.ds⟩
theorem least_of{p:Nat→Prop}:∀n,p n→∃k,p k∧∀m,m<k→¬ p m:=by
 intro n
 induction n using Nat.strongRecOn with
 | ind n ih =>
  intro hn
  by_cases h:∃m,m<n∧p m
  ·obtain⟨m,h1,h2⟩:=h
   exact ih m h1 h2
  ·exact⟨n,hn,fun m hm hp=>h ⟨m,hm,hp⟩⟩
theorem Fx.ex(ask:Int→Int)(a:Int):∃x,Fx ask a x:=by
 by_cases h:∃v,a≤v∧v≤100000∧ask v=v
 ·obtain⟨v,h1,h2,h3⟩:=h
  obtain⟨k,⟨g1,g2⟩,g3⟩:=least_of (p:=fun n=>a+(n:Int)≤100000∧ask (a+(n:Int))=a+(n:Int)) (v-a).toNat (by rw[show a+((v-a).toNat:Int)=v by omega];exact⟨h2,h3⟩)
  refine⟨some (a+(k:Int)),by omega,g1,g2,fun u hu hlt e=>?_⟩
  refine g3 (u-a).toNat (by omega) ⟨by omega,?_⟩
  rw[show a+((u-a).toNat:Int)=u by omega]
  exact e
 ·exact⟨none,fun v h1 h2 h3=>h ⟨v,h1,h2,h3⟩⟩
theorem qAsk_big{b:Int}{hd:List Fr}{m:Fr}{q:Nat}{y:Int}(hh:∀x∈hd,okFr x)(h8:hd.length≤8)(hm:okFr m)(hb:b≤9999)(hq:q≤200000)(h0:0≤y)(h1:y≤100000):qAsk b hd m (q:Int) y≤1000000000000:=by
 unfold qAsk
 have h2:=(sumF_range (f:=dnF) (y:=y) (l:=hd) (fun x hx=>dnF_range (hh x hx) h0 h1)).2
 have h3:=Int.mul_le_mul (show(q:Int)≤200000 by omega) hm.2.1 (by have:=hm.1;omega) (by omega)
 have:(hd.length:Int)*3000000000≤8*3000000000:=Int.mul_le_mul_of_nonneg_right (by omega) (by omega)
 omega
theorem busyAsk_big{b:Int}{hd:List Fr}{m:Fr}{y:Int}(hh:∀x∈hd,okFr x)(h8:hd.length≤8)(hm:okFr m)(hb:b≤9999)(h0:0≤y)(h1:y≤100000):busyAsk b hd m y≤1000000000000:=by
 unfold busyAsk
 have h2:=(sumF_range (f:=upF) (y:=y) (l:=hd++[m]) (fun x hx=>upF_range (by rcases List.mem_append.1 hx with hx|hx;exact hh x hx;simp at hx;exact hx ▸ hm) h0 h1)).2
 rw[List.length_append]at h2
 simp only[List.length_cons,List.length_nil]at h2
 omega
def BgAt(h:Int)(hd:List Fr)(m:Fr)(q:Nat)(bg:Int):Prop:=(q=0∧bg=h)∨∃p:Nat,q=p+1∧Fx (qAsk h hd m (p:Int)) 0 (some bg)
theorem BgAt.start{h:Int}{hd:List Fr}{m:Fr}{q:Nat}{bg:Int}(hx:BgAt h hd m q bg)(hh:∀x∈hd,okFr x)(hm:okFr m)(h0:0≤h)(h1:h≤9999):0≤bg∧bg≤100000∧bg≤qAsk h hd m (q:Int) bg:=by
 rcases hx with ⟨rfl,rfl⟩|⟨p,rfl,hp⟩
 ·refine⟨h0,by omega,?_⟩
  have:=qAsk_low (b:=bg) (m:=m) (q:=((0:Nat):Int)) hh h0
  rw[show((0:Nat):Int)=0 from rfl,Int.zero_mul]at this
  rw[show((0:Nat):Int)=0 from rfl]
  omega
 ·exact⟨hp.1,hp.2.1,by have:=q_start hm hp;rwa[show((p+1:Nat):Int)=(p:Int)+1 by omega]⟩
theorem BgAt.whole{h:Int}{hd:List Fr}{m:Fr}{q:Nat}{bg:Int}{x:Option Int}(hx:BgAt h hd m q bg)(hh:∀x∈hd,okFr x)(hm:okFr m)(h0:0≤h)(hf:Fx (qAsk h hd m (q:Int)) bg x):Fx (qAsk h hd m (q:Int)) 0 x:=by
 rcases hx with ⟨rfl,rfl⟩|⟨p,rfl,hp⟩
 ·refine hf.from' h0 (fun v hv hlt e=>?_)
  have:=qAsk_low (b:=bg) (m:=m) (q:=((0:Nat):Int)) hh hv
  rw[show((0:Nat):Int)=0 from rfl,Int.zero_mul]at this
  rw[show((0:Nat):Int)=0 from rfl]at e
  omega
 ·rw[show((p+1:Nat):Int)=(p:Int)+1 by omega]at hf ⊢
  exact q_next hh hm h0 (by omega) hp hf
theorem Mo.up{ask:Int→Int}{a b:Int}(h:Mo ask a)(hab:a≤b):Mo ask b:=fun v w hv hvw=>h v w (by omega) hvw
theorem kinds_range{m:Fr}{busy:Int}(hm:okFr m)(h0:0≤busy)(h1:busy≤100000):0≤kinds m busy∧kinds m busy≤130000:=by
 obtain⟨g1,g2,g3,g4,g5,g6,g7,g8⟩:=hm
 unfold kinds
 have q0:0≤(busy+m.j+m.t-1) / m.t:=Int.ediv_nonneg (by omega) (by omega)
 have q1:(busy+m.j+m.t-1) / m.t≤busy+m.j+m.t-1:=Int.ediv_le_self m.t (by omega)
 omega
structure RgF (W0 W:World) (v1 v2 v3 v4 dv hv:Value) (a b c:Nat):Prop where
 bel:Below W0.heap.size W0 W
 ha:W.heap[a]?=some (.cells #[v1,v2,v3,v4] 240 (0,0))
 hb:W.heap[b]?=some (.cells #[dv] 238 (0,0))
 hc:W.heap[c]?=some (.cells #[hv] 3 (0,0))
 low:W0.heap.size≤a∧W0.heap.size≤b∧W0.heap.size≤c
 ds:a≠b∧a≠c∧b≠c
theorem RgN.cells{W0 W:World}{a b c:Nat}(h:RgN W0 W (some a) (some b) (some c)):(W.cell? ⟨a,0,none⟩=some (.int .i64 0)∧W.cell? ⟨a,1,none⟩=some (.int .i64 0)∧W.cell? ⟨a,2,none⟩=some (.int .i64 0)∧W.cell? ⟨a,3,none⟩=some (.int .i64 0)∧W.frozen? ⟨a,0,none⟩=false∧W.frozen? ⟨a,1,none⟩=false∧W.frozen? ⟨a,2,none⟩=false∧W.frozen? ⟨a,3,none⟩=false∧a<W.heap.size)∧(W.cell? ⟨b,0,none⟩=some (.slice none 0 0)∧W.frozen? ⟨b,0,none⟩=false∧b<W.heap.size)∧(W.cell? ⟨c,0,none⟩=some (.int .i64 0)∧W.frozen? ⟨c,0,none⟩=false∧c<W.heap.size):=by
 obtain⟨a1,a2,a3⟩:=cells_of (l:=[_,_,_,_]) (h.ha a rfl).1
 obtain⟨b1,b2,b3⟩:=cells_of (l:=[_]) (h.hb b rfl).1
 obtain⟨c1,c2,c3⟩:=cells_of (l:=[_]) (h.hc c rfl).1
 exact⟨⟨a1 0 _ rfl,a1 1 _ rfl,a1 2 _ rfl,a1 3 _ rfl,a2 0,a2 1,a2 2,a2 3,a3⟩,⟨b1 0 _ rfl,b2 0,b3⟩,c1 0 _ rfl,c2 0,c3⟩
theorem RgN.three{W0 W:World}{a b c:Nat}(h:RgN W0 W (some a) (some b) (some c))(v1 v2 v3 v4 dv hv:Value):Below W0.heap.size W0 ((((W.setCell ⟨a,0,none⟩ v1).setCell ⟨a,1,none⟩ v2).setCell ⟨a,2,none⟩ v3).setCell ⟨a,3,none⟩ v4)∧Below W0.heap.size W0 (((((W.setCell ⟨a,0,none⟩ v1).setCell ⟨a,1,none⟩ v2).setCell ⟨a,2,none⟩ v3).setCell ⟨a,3,none⟩ v4).setCell ⟨b,0,none⟩ dv)∧RgF W0 ((((((W.setCell ⟨a,0,none⟩ v1).setCell ⟨a,1,none⟩ v2).setCell ⟨a,2,none⟩ v3).setCell ⟨a,3,none⟩ v4).setCell ⟨b,0,none⟩ dv).setCell ⟨c,0,none⟩ hv) v1 v2 v3 v4 dv hv a b c:=by
 obtain⟨a1,a2⟩:=h.ha a rfl
 obtain⟨b1,b2⟩:=h.hb b rfl
 obtain⟨c1,c2⟩:=h.hc c rfl
 have dab:=h.dab a b rfl rfl
 have dac:=h.dac a c rfl rfl
 have dbc:=h.dbc b c rfl rfl
 have k1:Below W0.heap.size W0 ((((W.setCell ⟨a,0,none⟩ v1).setCell ⟨a,1,none⟩ v2).setCell ⟨a,2,none⟩ v3).setCell ⟨a,3,none⟩ v4):=(((h.bel.setCell (show W0.heap.size≤a from a2) _).setCell (show W0.heap.size≤a from a2) _).setCell (show W0.heap.size≤a from a2) _).setCell (show W0.heap.size≤a from a2) _
 have k2:Below W0.heap.size W0 (((((W.setCell ⟨a,0,none⟩ v1).setCell ⟨a,1,none⟩ v2).setCell ⟨a,2,none⟩ v3).setCell ⟨a,3,none⟩ v4).setCell ⟨b,0,none⟩ dv):=k1.setCell (show W0.heap.size≤b from b2) _
 refine⟨k1,k2,k2.setCell (show W0.heap.size≤c from c2) _,?_,?_,?_,⟨a2,b2,c2⟩,dab,dac,dbc⟩
 ·rw[Below.heap_setCell _ _ _ _ dac,Below.heap_setCell _ _ _ _ dab,setCell_at (setCell_at (setCell_at (setCell_at a1)))];rfl
 ·rw[Below.heap_setCell _ _ _ _ dbc,setCell_at (show _=some (Obj.cells #[.slice none 0 0] 238 (0,0)) by rw[Below.heap_setCell _ _ _ _ (Ne.symm dab),Below.heap_setCell _ _ _ _ (Ne.symm dab),Below.heap_setCell _ _ _ _ (Ne.symm dab),Below.heap_setCell _ _ _ _ (Ne.symm dab)];exact b1)];rfl
 ·rw[setCell_at (show _=some (Obj.cells #[.int .i64 0] 3 (0,0)) by rw[Below.heap_setCell _ _ _ _ (Ne.symm dbc),Below.heap_setCell _ _ _ _ (Ne.symm dac),Below.heap_setCell _ _ _ _ (Ne.symm dac),Below.heap_setCell _ _ _ _ (Ne.symm dac),Below.heap_setCell _ _ _ _ (Ne.symm dac)];exact c1)];rfl
theorem RgN.fin{w W0 W:World}{l:List Fr}{lv dv:Value}{i a b c:Nat}{m:Fr}{hh:Int}(h:RgF W0 W (.int .i64 m.c) (.int .i64 m.t) (.int .i64 m.d) (.int .i64 m.j) dv (.int .i64 hh) a b c)(hW:((w.alloc (.cells #[lv] 238)).alloc (.cells #[.int .i64 (i:Int)] 3)).drew=W0):WstW w W l lv dv i m hh a b c:=by
 subst hW
 have hs:((w.alloc (.cells #[lv] 238)).alloc (.cells #[.int .i64 (i:Int)] 3)).drew.heap.size=w.heap.size+2:=by simp
 obtain⟨l1,l2,l3⟩:=h.low
 rw[hs]at l1 l2 l3
 have hbw:Below w.heap.size w ((w.alloc (.cells #[lv] 238)).alloc (.cells #[.int .i64 (i:Int)] 3)).drew:=(below_seq (below_new _ _) (below_new _ _)).drew
 refine⟨below_seq hbw h.bel,(h.bel.block _ (by omega)).trans ?_,(h.bel.block _ (by omega)).trans ?_,h.ha,h.hb,h.hc,⟨l1,l2,l3⟩,h.ds⟩
 ·show((w.alloc (.cells #[lv] 238)).alloc (.cells #[.int .i64 (i:Int)] 3)).heap[w.heap.size]?=_
  rw[Below.heap_alloc _ _ _ (by simp)]
  exact heap_alloc_new _ _
 ·show((w.alloc (.cells #[lv] 238)).alloc (.cells #[.int .i64 (i:Int)] 3)).heap[w.heap.size+1]?=_
  have:=heap_alloc_new (w.alloc (.cells #[lv] 238)) (.cells #[.int .i64 (i:Int)] 3)
  simpa using this
set_option maxRecDepth 20000 in
set_option maxHeartbeats 2000000 in
theorem worstN_any(w:World)(l:List Fr)(ab ao c i:Nat)(m:Fr)(hl8:l.length≤8)(hcap:l.length≤c)(hok:∀x∈l,okFr x)(hm:l[i]?=some m)(hv:RowSl Fr.vals w l (.slice (some ⟨ab,ao,none⟩) l.length c)) :
  Calls Tryz.prog 214 #[.slice (some ⟨ab,ao,none⟩) l.length c,.int .i64 (i:Int)] w fun r w'=>∃x,Wst (l.take i) m (l.drop (i+1)) x∧r = .returned (.tuple #[.int .i64 (x.getD 0),.bool x.isSome])∧Below w.heap.size w w':=by
 have hfr:FrAt w ab (ao+i*4) m:=by
  obtain⟨ad,c',e,-,-,hr⟩:=hv
  cases e
  rcases hr with hr|⟨b',o',e,hr⟩
  ·rw[hr]at hm;simp at hm
  ·cases e;exact fr_at hr hm
 have HM:Hid (i<l.length∧(∀x∈l,okFr x)∧RowSl Fr.vals w l (.slice (some ⟨ab,ao,none⟩) l.length c)∧FrAt w ab (ao+i*4) m):=⟨(List.getElem?_eq_some_iff.1 hm).1,hok,hv,hfr⟩
 have HM2:Hid (l[i]?=some m):=hm
 clear hfr hok hv hm
 go_enter Tryz.func214,Tryz.ntmps214
 go_upto_region 1 with fail
 go_cut [6,7,8] from 14 to 25 (fun v6 v7 v8 wc=>∃a b d,v6 = .pointer (some ⟨a,0,none⟩)∧v7 = .pointer (some ⟨b,0,none⟩)∧v8 = .pointer (some ⟨d,0,none⟩)∧WstW w wc l (.slice (some ⟨ab,ao,none⟩) l.length c) (.slice (some ⟨ab,ao,none⟩) i c) i m (heldF (l.drop (i+1))) a b d)
 case first =>
  have hi:i<l.length:=HM.out.1
  obtain⟨mc,mt,md,mj⟩:=m
  have hcap2:((i:Int)+1)≤(l.length:Int):=by omega
  have hic:((i:Int))≤(c:Int):=by omega
  have hc0:¬ c=0:=by omega
  have hil:(i:Int)<(l.length:Int):=by omega
  have e2:IntKind.i64.wrap ((i:Int)+1)=(i:Int)+1:=by rw[IntKind.wrap_i64];omega
  have e9:((i:Int)+1).toNat=i+1:=by omega
  have hi0:(0:Int)≤(i:Int)+1:=by omega
  have hS00:∀w',Below ((w.alloc (.cells #[.slice (some ⟨ab,ao,none⟩) l.length c] 238)).alloc (.cells #[.int .i64 (i:Int)] 3)).drew.heap.size ((w.alloc (.cells #[.slice (some ⟨ab,ao,none⟩) l.length c] 238)).alloc (.cells #[.int .i64 (i:Int)] 3)).drew w'→(fun w':World=>w'.cell? ⟨w.heap.size,0,none⟩=some (.slice (some ⟨ab,ao,none⟩) l.length c)∧w'.cell? ⟨w.heap.size+1,0,none⟩=some (.int .i64 (i:Int))∧w'.cell? ⟨ab,ao+i*4,none⟩=some (.int .i64 mc)∧w'.cell? ⟨ab,ao+i*4+1,none⟩=some (.int .i64 mt)∧w'.cell? ⟨ab,ao+i*4+2,none⟩=some (.int .i64 md)∧w'.cell? ⟨ab,ao+i*4+3,none⟩=some (.int .i64 mj)) w':=fun w' hb'=>by
   have hbw:Below w.heap.size w ((w.alloc (.cells #[.slice (some ⟨ab,ao,none⟩) l.length c] 238)).alloc (.cells #[.int .i64 (i:Int)] 3)).drew:=(below_seq (below_new _ _) (below_new _ _)).drew
   obtain⟨y0,y1,y2,y3⟩:=HM.out.2.2.2
   exact⟨below_cell hb' (by go_simp),below_cell hb' (by go_simp),below_cell hb' (below_cell hbw y0),below_cell hb' (below_cell hbw y1),below_cell hb' (below_cell hbw y2),below_cell hb' (below_cell hbw y3)⟩
  have HS:Hid (∀w',Below ((w.alloc (.cells #[.slice (some ⟨ab,ao,none⟩) l.length c] 238)).alloc (.cells #[.int .i64 (i:Int)] 3)).drew.heap.size ((w.alloc (.cells #[.slice (some ⟨ab,ao,none⟩) l.length c] 238)).alloc (.cells #[.int .i64 (i:Int)] 3)).drew w'→(fun w':World=>w'.cell? ⟨w.heap.size,0,none⟩=some (.slice (some ⟨ab,ao,none⟩) l.length c)∧w'.cell? ⟨w.heap.size+1,0,none⟩=some (.int .i64 (i:Int))∧w'.cell? ⟨ab,ao+i*4,none⟩=some (.int .i64 mc)∧w'.cell? ⟨ab,ao+i*4+1,none⟩=some (.int .i64 mt)∧w'.cell? ⟨ab,ao+i*4+2,none⟩=some (.int .i64 md)∧w'.cell? ⟨ab,ao+i*4+3,none⟩=some (.int .i64 mj)) w'):=hS00
  have hS0:=HS.out _ (Below.refl _ _)
  have hX:Hid (RgN ((w.alloc (.cells #[.slice (some ⟨ab,ao,none⟩) l.length c] 238)).alloc (.cells #[.int .i64 (i:Int)] 3)).drew ((w.alloc (.cells #[.slice (some ⟨ab,ao,none⟩) l.length c] 238)).alloc (.cells #[.int .i64 (i:Int)] 3)).drew none none none):=RgN.start _
  have HL:Hid ((l.drop (i+1)).length≤8∧(∀x∈l.drop (i+1),okFr x)∧∀W',Below ((w.alloc (.cells #[.slice (some ⟨ab,ao,none⟩) l.length c] 238)).alloc (.cells #[.int .i64 (i:Int)] 3)).drew.heap.size ((w.alloc (.cells #[.slice (some ⟨ab,ao,none⟩) l.length c] 238)).alloc (.cells #[.int .i64 (i:Int)] 3)).drew W'→RowSl Fr.vals W' (l.drop (i+1)) (.slice (if c=i+1 then some ⟨ab,ao,none⟩ else some ⟨ab,ao+(i+1)*4,none⟩) (l.length-(i+1)) (c-(i+1)))):=⟨by rw[List.length_drop];omega,drop_ok HM.out.2.1,fun W' hb'=>((HM.out.2.2.1.below (below_seq (below_new _ _) (below_new _ _)).drew).below hb').dropF (i+1) (by omega)⟩
  clear hS00
  refine wp_region_noPanic ?_
  refine wp_region_held_drew (S:=fun w':World=>w'.cell? ⟨w.heap.size,0,none⟩=some (.slice (some ⟨ab,ao,none⟩) l.length c)∧w'.cell? ⟨w.heap.size+1,0,none⟩=some (.int .i64 (i:Int))∧w'.cell? ⟨ab,ao+i*4,none⟩=some (.int .i64 mc)∧w'.cell? ⟨ab,ao+i*4+1,none⟩=some (.int .i64 mt)∧w'.cell? ⟨ab,ao+i*4+2,none⟩=some (.int .i64 md)∧w'.cell? ⟨ab,ao+i*4+3,none⟩=some (.int .i64 mj)) (by kernel_rfl) hS0 (fun hHeld=>?_)
  refine tk (i:=0) (n:=14) (v:=?_) ?_ ?_
  rotate_left 1
  ·intro wz hSw
   obtain⟨s0,s1,s2,s3,s4,s5⟩:=hSw
   first|(go_simp;done)|(go_simp;with_reducible rfl)
  simp only[ls0,ls1]
  refine tk (i:=1) (n:=15) (v:=?_) ?_ ?_
  rotate_left 1
  ·intro wz hSw
   obtain⟨s0,s1,s2,s3,s4,s5⟩:=hSw
   first|(go_simp;done)|(go_simp;with_reducible rfl)
  simp only[ls0,ls1]
  refine tk (i:=2) (n:=16) (v:=?_) ?_ ?_
  rotate_left 1
  ·intro wz hSw
   obtain⟨s0,s1,s2,s3,s4,s5⟩:=hSw
   first|(go_simp;done)|(go_simp;with_reducible rfl)
  simp only[ls0,ls1]
  refine tk (i:=3) (n:=17) (v:=?_) ?_ ?_
  rotate_left 1
  ·intro wz hSw
   obtain⟨s0,s1,s2,s3,s4,s5⟩:=hSw
   first|(go_simp;done)|(go_simp;with_reducible rfl)
  simp only[ls0,ls1]
  refine tk (i:=4) (n:=18) (v:=?_) ?_ ?_
  rotate_left 1
  ·intro wz hSw
   obtain⟨s0,s1,s2,s3,s4,s5⟩:=hSw
   first|(go_simp;done)|(go_simp;with_reducible rfl)
  simp only[ls0,ls1]
  refine tk (i:=5) (n:=19) (v:=?_) ?_ ?_
  rotate_left 1
  ·intro wz hSw
   obtain⟨s0,s1,s2,s3,s4,s5⟩:=hSw
   first|(go_simp;done)|(go_simp;with_reducible rfl)
  simp only[ls0,ls1]
  refine tk (i:=6) (n:=20) (v:=?_) ?_ ?_
  rotate_left 1
  ·intro wz hSw
   obtain⟨s0,s1,s2,s3,s4,s5⟩:=hSw
   first|(go_simp;done)|(go_simp;with_reducible rfl)
  simp only[ls0,ls1]
  refine tk (i:=7) (n:=21) (v:=?_) ?_ ?_
  rotate_left 1
  ·intro wz hSw
   obtain⟨s0,s1,s2,s3,s4,s5⟩:=hSw
   first|(go_simp;done)|(go_simp;with_reducible rfl)
  simp only[ls0,ls1]
  refine tk (i:=8) (n:=22) (v:=?_) ?_ ?_
  rotate_left 1
  ·intro wz hSw
   obtain⟨s0,s1,s2,s3,s4,s5⟩:=hSw
   first|(go_simp;done)|(go_simp;with_reducible rfl)
  simp only[ls0,ls1]
  refine tk (i:=9) (n:=23) (v:=?_) ?_ ?_
  rotate_left 1
  ·intro wz hSw
   obtain⟨s0,s1,s2,s3,s4,s5⟩:=hSw
   first|(go_simp;done)|(go_simp;with_reducible rfl)
  simp only[ls0,ls1]
  refine tk (i:=10) (n:=24) (v:=?_) ?_ ?_
  rotate_left 1
  ·intro wz hSw
   obtain⟨s0,s1,s2,s3,s4,s5⟩:=hSw
   first|(go_simp;done)|(go_simp;with_reducible rfl)
  simp only[ls0,ls1]
  generalize hW0:((w.alloc (.cells #[.slice (some ⟨ab,ao,none⟩) l.length c] 238)).alloc (.cells #[.int .i64 (i:Int)] 3)).drew=W0 at *
  have HW0:Hid (((w.alloc (.cells #[.slice (some ⟨ab,ao,none⟩) l.length c] 238)).alloc (.cells #[.int .i64 (i:Int)] 3)).drew=W0):=hW0
  clear hW0
  generalize (Value.slice (if c=i+1 then some ⟨ab,ao,none⟩ else some ⟨ab,ao+(i+1)*4,none⟩) (l.length-(i+1)) (c-(i+1)))=dv at *
  refine wpAnyH_ready (rs:=[11,12,13,14]) (by kernel_rfl) (by simp) ?_
  refine AllReadyH.cons rfl (fun K' hK'=>?_) (AllReadyH.cons rfl (fun K' hK'=>?_) (AllReadyH.cons rfl (fun K' hK'=>?_) (AllReadyH.cons rfl (fun K' hK'=>?_) (AllReadyH.nil))))
  ·skip
   go_simp
   go_wp2_with (go_at_call 235;refine(holds_any W0 (l.drop (i+1)) _ HL.out.1 HL.out.2.1 (HL.out.2.2 _ hX.out.bel)).mono ?_;rintro r wn1 ⟨rfl,hb9⟩)
   have hY:=hX.out.grow hb9
   refine hK'.out _ _ (HS.out _ hY.bel) (fun hHeld=>?_)
   clear hK' K' hX
   have hX:Hid (RgN W0 wn1 none none none):=hY
   clear hY
   refine wpAnyH_ready (rs:=[12,13,14]) (by kernel_rfl) (by simp) ?_
   refine AllReadyH.cons rfl (fun K' hK'=>?_) (AllReadyH.cons rfl (fun K' hK'=>?_) (AllReadyH.cons rfl (fun K' hK'=>?_) (AllReadyH.nil)))
   ·skip
    have hY:=hX.out.addA (below_new wn1 (.cells #[.int .i64 0,.int .i64 0,.int .i64 0,.int .i64 0] 240)) (Nat.le_refl _) (heap_alloc_new _ _)
    go_simp
    generalize wn1.alloc (.cells #[.int .i64 0,.int .i64 0,.int .i64 0,.int .i64 0] 240)=wn2 at hY ⊢
    refine hK'.out _ _ (HS.out _ hY.bel) (fun hHeld=>?_)
    clear hK' K' hX
    have hX:Hid (RgN W0 wn2 (some wn1.heap.size) none none):=hY
    clear hY
    refine wpAnyH_ready (rs:=[13,14]) (by kernel_rfl) (by simp) ?_
    refine AllReadyH.cons rfl (fun K' hK'=>?_) (AllReadyH.cons rfl (fun K' hK'=>?_) (AllReadyH.nil))
    ·skip
     have hY:=hX.out.addB (below_new wn2 (.cells #[.slice none 0 0] 238)) (Nat.le_refl _) (heap_alloc_new _ _)
     go_simp
     generalize wn2.alloc (.cells #[.slice none 0 0] 238)=wn3 at hY ⊢
     refine hK'.out _ _ (HS.out _ hY.bel) (fun hHeld=>?_)
     clear hK' K' hX
     have hX:Hid (RgN W0 wn3 (some wn1.heap.size) (some wn2.heap.size) none):=hY
     clear hY
     refine wpAnyH_ready (rs:=[14]) (by kernel_rfl) (by simp) ?_
     refine AllReadyH.cons rfl (fun K' hK'=>?_) (AllReadyH.nil)
     ·skip
      have hY:=hX.out.addC (below_new wn3 (.cells #[.int .i64 0] 3)) (Nat.le_refl _) (heap_alloc_new _ _)
      go_simp
      generalize wn3.alloc (.cells #[.int .i64 0] 3)=wn4 at hY ⊢
      refine hK'.out _ _ (HS.out _ hY.bel) (fun hHeld=>?_)
      clear hK' K' hX
      have hX:Hid (RgN W0 wn4 (some wn1.heap.size) (some wn2.heap.size) (some wn3.heap.size)):=hY
      clear hY
      obtain⟨f1,f2,f3⟩:=RgN.cells hX.out
      obtain⟨p0,p1,p2,p3,pf0,pf1,pf2,pf3,pl⟩:=f1
      obtain⟨q0,qf0,ql⟩:=f2
      obtain⟨r0,rf0,rl⟩:=f3
      have dab:=hX.out.dab _ _ rfl rfl
      have dac:=hX.out.dac _ _ rfl rfl
      have dbc:=hX.out.dbc _ _ rfl rfl
      have hK3:=RgN.three hX.out (.int .i64 mc) (.int .i64 mt) (.int .i64 md) (.int .i64 mj) (.slice (some ⟨ab,ao,none⟩) i c) (.int .i64 (heldF (l.drop (i+1))))
      have HK3:Hid (_∧_∧_):=hK3
      clear hK3
      refine wpAnyH_ready (rs:=[15]) (by kernel_rfl) (by simp) ?_
      refine AllReadyH.cons rfl (fun K' hK'=>?_) AllReadyH.nil
      go_simp
      refine hK'.out _ _ (HS.out _ HK3.out.1) (fun hHeld=>?_)
      clear hK' K'
      refine wpAnyH_ready (rs:=[16]) (by kernel_rfl) (by simp) ?_
      refine AllReadyH.cons rfl (fun K' hK'=>?_) AllReadyH.nil
      go_simp
      refine hK'.out _ _ (HS.out _ HK3.out.2.1) (fun hHeld=>?_)
      clear hK' K'
      refine wpAnyH_ready (rs:=[17]) (by kernel_rfl) (by simp) ?_
      refine AllReadyH.cons rfl (fun K' hK'=>?_) AllReadyH.nil
      go_simp
      refine hK'.out _ _ (HS.out _ HK3.out.2.2.bel) (fun hHeld=>?_)
      clear hK' K'
      refine wpAnyH_done (by kernel_rfl) ?_ _
      refine NoPanic.normal ?_
      go_wp2_with fail
      go_meet
      case rel =>
       exact⟨_,_,_,rfl,rfl,rfl,RgN.fin HK3.out.2.2 HW0.out⟩
    ·skip
     have hY:=hX.out.addC (below_new wn2 (.cells #[.int .i64 0] 3)) (Nat.le_refl _) (heap_alloc_new _ _)
     go_simp
     generalize wn2.alloc (.cells #[.int .i64 0] 3)=wn5 at hY ⊢
     refine hK'.out _ _ (HS.out _ hY.bel) (fun hHeld=>?_)
     clear hK' K' hX
     have hX:Hid (RgN W0 wn5 (some wn1.heap.size) none (some wn2.heap.size)):=hY
     clear hY
     refine wpAnyH_ready (rs:=[13]) (by kernel_rfl) (by simp) ?_
     refine AllReadyH.cons rfl (fun K' hK'=>?_) (AllReadyH.nil)
     ·skip
      have hY:=hX.out.addB (below_new wn5 (.cells #[.slice none 0 0] 238)) (Nat.le_refl _) (heap_alloc_new _ _)
      go_simp
      generalize wn5.alloc (.cells #[.slice none 0 0] 238)=wn6 at hY ⊢
      refine hK'.out _ _ (HS.out _ hY.bel) (fun hHeld=>?_)
      clear hK' K' hX
      have hX:Hid (RgN W0 wn6 (some wn1.heap.size) (some wn5.heap.size) (some wn2.heap.size)):=hY
      clear hY
      obtain⟨f1,f2,f3⟩:=RgN.cells hX.out
      obtain⟨p0,p1,p2,p3,pf0,pf1,pf2,pf3,pl⟩:=f1
      obtain⟨q0,qf0,ql⟩:=f2
      obtain⟨r0,rf0,rl⟩:=f3
      have dab:=hX.out.dab _ _ rfl rfl
      have dac:=hX.out.dac _ _ rfl rfl
      have dbc:=hX.out.dbc _ _ rfl rfl
      have hK3:=RgN.three hX.out (.int .i64 mc) (.int .i64 mt) (.int .i64 md) (.int .i64 mj) (.slice (some ⟨ab,ao,none⟩) i c) (.int .i64 (heldF (l.drop (i+1))))
      have HK3:Hid (_∧_∧_):=hK3
      clear hK3
      refine wpAnyH_ready (rs:=[15]) (by kernel_rfl) (by simp) ?_
      refine AllReadyH.cons rfl (fun K' hK'=>?_) AllReadyH.nil
      go_simp
      refine hK'.out _ _ (HS.out _ HK3.out.1) (fun hHeld=>?_)
      clear hK' K'
      refine wpAnyH_ready (rs:=[16]) (by kernel_rfl) (by simp) ?_
      refine AllReadyH.cons rfl (fun K' hK'=>?_) AllReadyH.nil
      go_simp
      refine hK'.out _ _ (HS.out _ HK3.out.2.1) (fun hHeld=>?_)
      clear hK' K'
      refine wpAnyH_ready (rs:=[17]) (by kernel_rfl) (by simp) ?_
      refine AllReadyH.cons rfl (fun K' hK'=>?_) AllReadyH.nil
      go_simp
      refine hK'.out _ _ (HS.out _ HK3.out.2.2.bel) (fun hHeld=>?_)
      clear hK' K'
      refine wpAnyH_done (by kernel_rfl) ?_ _
      refine NoPanic.normal ?_
      go_wp2_with fail
      go_meet
      case rel =>
       exact⟨_,_,_,rfl,rfl,rfl,RgN.fin HK3.out.2.2 HW0.out⟩
   ·skip
    have hY:=hX.out.addB (below_new wn1 (.cells #[.slice none 0 0] 238)) (Nat.le_refl _) (heap_alloc_new _ _)
    go_simp
    generalize wn1.alloc (.cells #[.slice none 0 0] 238)=wn7 at hY ⊢
    refine hK'.out _ _ (HS.out _ hY.bel) (fun hHeld=>?_)
    clear hK' K' hX
    have hX:Hid (RgN W0 wn7 none (some wn1.heap.size) none):=hY
    clear hY
    refine wpAnyH_ready (rs:=[12,14]) (by kernel_rfl) (by simp) ?_
    refine AllReadyH.cons rfl (fun K' hK'=>?_) (AllReadyH.cons rfl (fun K' hK'=>?_) (AllReadyH.nil))
    ·skip
     have hY:=hX.out.addA (below_new wn7 (.cells #[.int .i64 0,.int .i64 0,.int .i64 0,.int .i64 0] 240)) (Nat.le_refl _) (heap_alloc_new _ _)
     go_simp
     generalize wn7.alloc (.cells #[.int .i64 0,.int .i64 0,.int .i64 0,.int .i64 0] 240)=wn8 at hY ⊢
     refine hK'.out _ _ (HS.out _ hY.bel) (fun hHeld=>?_)
     clear hK' K' hX
     have hX:Hid (RgN W0 wn8 (some wn7.heap.size) (some wn1.heap.size) none):=hY
     clear hY
     refine wpAnyH_ready (rs:=[14]) (by kernel_rfl) (by simp) ?_
     refine AllReadyH.cons rfl (fun K' hK'=>?_) (AllReadyH.nil)
     ·skip
      have hY:=hX.out.addC (below_new wn8 (.cells #[.int .i64 0] 3)) (Nat.le_refl _) (heap_alloc_new _ _)
      go_simp
      generalize wn8.alloc (.cells #[.int .i64 0] 3)=wn9 at hY ⊢
      refine hK'.out _ _ (HS.out _ hY.bel) (fun hHeld=>?_)
      clear hK' K' hX
      have hX:Hid (RgN W0 wn9 (some wn7.heap.size) (some wn1.heap.size) (some wn8.heap.size)):=hY
      clear hY
      obtain⟨f1,f2,f3⟩:=RgN.cells hX.out
      obtain⟨p0,p1,p2,p3,pf0,pf1,pf2,pf3,pl⟩:=f1
      obtain⟨q0,qf0,ql⟩:=f2
      obtain⟨r0,rf0,rl⟩:=f3
      have dab:=hX.out.dab _ _ rfl rfl
      have dac:=hX.out.dac _ _ rfl rfl
      have dbc:=hX.out.dbc _ _ rfl rfl
      have hK3:=RgN.three hX.out (.int .i64 mc) (.int .i64 mt) (.int .i64 md) (.int .i64 mj) (.slice (some ⟨ab,ao,none⟩) i c) (.int .i64 (heldF (l.drop (i+1))))
      have HK3:Hid (_∧_∧_):=hK3
      clear hK3
      refine wpAnyH_ready (rs:=[15]) (by kernel_rfl) (by simp) ?_
      refine AllReadyH.cons rfl (fun K' hK'=>?_) AllReadyH.nil
      go_simp
      refine hK'.out _ _ (HS.out _ HK3.out.1) (fun hHeld=>?_)
      clear hK' K'
      refine wpAnyH_ready (rs:=[16]) (by kernel_rfl) (by simp) ?_
      refine AllReadyH.cons rfl (fun K' hK'=>?_) AllReadyH.nil
      go_simp
      refine hK'.out _ _ (HS.out _ HK3.out.2.1) (fun hHeld=>?_)
      clear hK' K'
      refine wpAnyH_ready (rs:=[17]) (by kernel_rfl) (by simp) ?_
      refine AllReadyH.cons rfl (fun K' hK'=>?_) AllReadyH.nil
      go_simp
      refine hK'.out _ _ (HS.out _ HK3.out.2.2.bel) (fun hHeld=>?_)
      clear hK' K'
      refine wpAnyH_done (by kernel_rfl) ?_ _
      refine NoPanic.normal ?_
      go_wp2_with fail
      go_meet
      case rel =>
       exact⟨_,_,_,rfl,rfl,rfl,RgN.fin HK3.out.2.2 HW0.out⟩
    ·skip
     have hY:=hX.out.addC (below_new wn7 (.cells #[.int .i64 0] 3)) (Nat.le_refl _) (heap_alloc_new _ _)
     go_simp
     generalize wn7.alloc (.cells #[.int .i64 0] 3)=wn10 at hY ⊢
     refine hK'.out _ _ (HS.out _ hY.bel) (fun hHeld=>?_)
     clear hK' K' hX
     have hX:Hid (RgN W0 wn10 none (some wn1.heap.size) (some wn7.heap.size)):=hY
     clear hY
     refine wpAnyH_ready (rs:=[12]) (by kernel_rfl) (by simp) ?_
     refine AllReadyH.cons rfl (fun K' hK'=>?_) (AllReadyH.nil)
     ·skip
      have hY:=hX.out.addA (below_new wn10 (.cells #[.int .i64 0,.int .i64 0,.int .i64 0,.int .i64 0] 240)) (Nat.le_refl _) (heap_alloc_new _ _)
      go_simp
      generalize wn10.alloc (.cells #[.int .i64 0,.int .i64 0,.int .i64 0,.int .i64 0] 240)=wn11 at hY ⊢
      refine hK'.out _ _ (HS.out _ hY.bel) (fun hHeld=>?_)
      clear hK' K' hX
      have hX:Hid (RgN W0 wn11 (some wn10.heap.size) (some wn1.heap.size) (some wn7.heap.size)):=hY
      clear hY
      obtain⟨f1,f2,f3⟩:=RgN.cells hX.out
      obtain⟨p0,p1,p2,p3,pf0,pf1,pf2,pf3,pl⟩:=f1
      obtain⟨q0,qf0,ql⟩:=f2
      obtain⟨r0,rf0,rl⟩:=f3
      have dab:=hX.out.dab _ _ rfl rfl
      have dac:=hX.out.dac _ _ rfl rfl
      have dbc:=hX.out.dbc _ _ rfl rfl
      have hK3:=RgN.three hX.out (.int .i64 mc) (.int .i64 mt) (.int .i64 md) (.int .i64 mj) (.slice (some ⟨ab,ao,none⟩) i c) (.int .i64 (heldF (l.drop (i+1))))
      have HK3:Hid (_∧_∧_):=hK3
      clear hK3
      refine wpAnyH_ready (rs:=[15]) (by kernel_rfl) (by simp) ?_
      refine AllReadyH.cons rfl (fun K' hK'=>?_) AllReadyH.nil
      go_simp
      refine hK'.out _ _ (HS.out _ HK3.out.1) (fun hHeld=>?_)
      clear hK' K'
      refine wpAnyH_ready (rs:=[16]) (by kernel_rfl) (by simp) ?_
      refine AllReadyH.cons rfl (fun K' hK'=>?_) AllReadyH.nil
      go_simp
      refine hK'.out _ _ (HS.out _ HK3.out.2.1) (fun hHeld=>?_)
      clear hK' K'
      refine wpAnyH_ready (rs:=[17]) (by kernel_rfl) (by simp) ?_
      refine AllReadyH.cons rfl (fun K' hK'=>?_) AllReadyH.nil
      go_simp
      refine hK'.out _ _ (HS.out _ HK3.out.2.2.bel) (fun hHeld=>?_)
      clear hK' K'
      refine wpAnyH_done (by kernel_rfl) ?_ _
      refine NoPanic.normal ?_
      go_wp2_with fail
      go_meet
      case rel =>
       exact⟨_,_,_,rfl,rfl,rfl,RgN.fin HK3.out.2.2 HW0.out⟩
   ·skip
    have hY:=hX.out.addC (below_new wn1 (.cells #[.int .i64 0] 3)) (Nat.le_refl _) (heap_alloc_new _ _)
    go_simp
    generalize wn1.alloc (.cells #[.int .i64 0] 3)=wn12 at hY ⊢
    refine hK'.out _ _ (HS.out _ hY.bel) (fun hHeld=>?_)
    clear hK' K' hX
    have hX:Hid (RgN W0 wn12 none none (some wn1.heap.size)):=hY
    clear hY
    refine wpAnyH_ready (rs:=[12,13]) (by kernel_rfl) (by simp) ?_
    refine AllReadyH.cons rfl (fun K' hK'=>?_) (AllReadyH.cons rfl (fun K' hK'=>?_) (AllReadyH.nil))
    ·skip
     have hY:=hX.out.addA (below_new wn12 (.cells #[.int .i64 0,.int .i64 0,.int .i64 0,.int .i64 0] 240)) (Nat.le_refl _) (heap_alloc_new _ _)
     go_simp
     generalize wn12.alloc (.cells #[.int .i64 0,.int .i64 0,.int .i64 0,.int .i64 0] 240)=wn13 at hY ⊢
     refine hK'.out _ _ (HS.out _ hY.bel) (fun hHeld=>?_)
     clear hK' K' hX
     have hX:Hid (RgN W0 wn13 (some wn12.heap.size) none (some wn1.heap.size)):=hY
     clear hY
     refine wpAnyH_ready (rs:=[13]) (by kernel_rfl) (by simp) ?_
     refine AllReadyH.cons rfl (fun K' hK'=>?_) (AllReadyH.nil)
     ·skip
      have hY:=hX.out.addB (below_new wn13 (.cells #[.slice none 0 0] 238)) (Nat.le_refl _) (heap_alloc_new _ _)
      go_simp
      generalize wn13.alloc (.cells #[.slice none 0 0] 238)=wn14 at hY ⊢
      refine hK'.out _ _ (HS.out _ hY.bel) (fun hHeld=>?_)
      clear hK' K' hX
      have hX:Hid (RgN W0 wn14 (some wn12.heap.size) (some wn13.heap.size) (some wn1.heap.size)):=hY
      clear hY
      obtain⟨f1,f2,f3⟩:=RgN.cells hX.out
      obtain⟨p0,p1,p2,p3,pf0,pf1,pf2,pf3,pl⟩:=f1
      obtain⟨q0,qf0,ql⟩:=f2
      obtain⟨r0,rf0,rl⟩:=f3
      have dab:=hX.out.dab _ _ rfl rfl
      have dac:=hX.out.dac _ _ rfl rfl
      have dbc:=hX.out.dbc _ _ rfl rfl
      have hK3:=RgN.three hX.out (.int .i64 mc) (.int .i64 mt) (.int .i64 md) (.int .i64 mj) (.slice (some ⟨ab,ao,none⟩) i c) (.int .i64 (heldF (l.drop (i+1))))
      have HK3:Hid (_∧_∧_):=hK3
      clear hK3
      refine wpAnyH_ready (rs:=[15]) (by kernel_rfl) (by simp) ?_
      refine AllReadyH.cons rfl (fun K' hK'=>?_) AllReadyH.nil
      go_simp
      refine hK'.out _ _ (HS.out _ HK3.out.1) (fun hHeld=>?_)
      clear hK' K'
      refine wpAnyH_ready (rs:=[16]) (by kernel_rfl) (by simp) ?_
      refine AllReadyH.cons rfl (fun K' hK'=>?_) AllReadyH.nil
      go_simp
      refine hK'.out _ _ (HS.out _ HK3.out.2.1) (fun hHeld=>?_)
      clear hK' K'
      refine wpAnyH_ready (rs:=[17]) (by kernel_rfl) (by simp) ?_
      refine AllReadyH.cons rfl (fun K' hK'=>?_) AllReadyH.nil
      go_simp
      refine hK'.out _ _ (HS.out _ HK3.out.2.2.bel) (fun hHeld=>?_)
      clear hK' K'
      refine wpAnyH_done (by kernel_rfl) ?_ _
      refine NoPanic.normal ?_
      go_wp2_with fail
      go_meet
      case rel =>
       exact⟨_,_,_,rfl,rfl,rfl,RgN.fin HK3.out.2.2 HW0.out⟩
    ·skip
     have hY:=hX.out.addB (below_new wn12 (.cells #[.slice none 0 0] 238)) (Nat.le_refl _) (heap_alloc_new _ _)
     go_simp
     generalize wn12.alloc (.cells #[.slice none 0 0] 238)=wn15 at hY ⊢
     refine hK'.out _ _ (HS.out _ hY.bel) (fun hHeld=>?_)
     clear hK' K' hX
     have hX:Hid (RgN W0 wn15 none (some wn12.heap.size) (some wn1.heap.size)):=hY
     clear hY
     refine wpAnyH_ready (rs:=[12]) (by kernel_rfl) (by simp) ?_
     refine AllReadyH.cons rfl (fun K' hK'=>?_) (AllReadyH.nil)
     ·skip
      have hY:=hX.out.addA (below_new wn15 (.cells #[.int .i64 0,.int .i64 0,.int .i64 0,.int .i64 0] 240)) (Nat.le_refl _) (heap_alloc_new _ _)
      go_simp
      generalize wn15.alloc (.cells #[.int .i64 0,.int .i64 0,.int .i64 0,.int .i64 0] 240)=wn16 at hY ⊢
      refine hK'.out _ _ (HS.out _ hY.bel) (fun hHeld=>?_)
      clear hK' K' hX
      have hX:Hid (RgN W0 wn16 (some wn15.heap.size) (some wn12.heap.size) (some wn1.heap.size)):=hY
      clear hY
      obtain⟨f1,f2,f3⟩:=RgN.cells hX.out
      obtain⟨p0,p1,p2,p3,pf0,pf1,pf2,pf3,pl⟩:=f1
      obtain⟨q0,qf0,ql⟩:=f2
      obtain⟨r0,rf0,rl⟩:=f3
      have dab:=hX.out.dab _ _ rfl rfl
      have dac:=hX.out.dac _ _ rfl rfl
      have dbc:=hX.out.dbc _ _ rfl rfl
      have hK3:=RgN.three hX.out (.int .i64 mc) (.int .i64 mt) (.int .i64 md) (.int .i64 mj) (.slice (some ⟨ab,ao,none⟩) i c) (.int .i64 (heldF (l.drop (i+1))))
      have HK3:Hid (_∧_∧_):=hK3
      clear hK3
      refine wpAnyH_ready (rs:=[15]) (by kernel_rfl) (by simp) ?_
      refine AllReadyH.cons rfl (fun K' hK'=>?_) AllReadyH.nil
      go_simp
      refine hK'.out _ _ (HS.out _ HK3.out.1) (fun hHeld=>?_)
      clear hK' K'
      refine wpAnyH_ready (rs:=[16]) (by kernel_rfl) (by simp) ?_
      refine AllReadyH.cons rfl (fun K' hK'=>?_) AllReadyH.nil
      go_simp
      refine hK'.out _ _ (HS.out _ HK3.out.2.1) (fun hHeld=>?_)
      clear hK' K'
      refine wpAnyH_ready (rs:=[17]) (by kernel_rfl) (by simp) ?_
      refine AllReadyH.cons rfl (fun K' hK'=>?_) AllReadyH.nil
      go_simp
      refine hK'.out _ _ (HS.out _ HK3.out.2.2.bel) (fun hHeld=>?_)
      clear hK' K'
      refine wpAnyH_done (by kernel_rfl) ?_ _
      refine NoPanic.normal ?_
      go_wp2_with fail
      go_meet
      case rel =>
       exact⟨_,_,_,rfl,rfl,rfl,RgN.fin HK3.out.2.2 HW0.out⟩
  ·skip
   have hY:=hX.out.addA (below_new W0 (.cells #[.int .i64 0,.int .i64 0,.int .i64 0,.int .i64 0] 240)) (Nat.le_refl _) (heap_alloc_new _ _)
   go_simp
   generalize W0.alloc (.cells #[.int .i64 0,.int .i64 0,.int .i64 0,.int .i64 0] 240)=wn17 at hY ⊢
   refine hK'.out _ _ (HS.out _ hY.bel) (fun hHeld=>?_)
   clear hK' K' hX
   have hX:Hid (RgN W0 wn17 (some W0.heap.size) none none):=hY
   clear hY
   refine wpAnyH_ready (rs:=[11,13,14]) (by kernel_rfl) (by simp) ?_
   refine AllReadyH.cons rfl (fun K' hK'=>?_) (AllReadyH.cons rfl (fun K' hK'=>?_) (AllReadyH.cons rfl (fun K' hK'=>?_) (AllReadyH.nil)))
   ·skip
    go_simp
    go_wp2_with (go_at_call 235;refine(holds_any wn17 (l.drop (i+1)) _ HL.out.1 HL.out.2.1 (HL.out.2.2 _ hX.out.bel)).mono ?_;rintro r wn18 ⟨rfl,hb9⟩)
    have hY:=hX.out.grow hb9
    refine hK'.out _ _ (HS.out _ hY.bel) (fun hHeld=>?_)
    clear hK' K' hX
    have hX:Hid (RgN W0 wn18 (some W0.heap.size) none none):=hY
    clear hY
    refine wpAnyH_ready (rs:=[13,14]) (by kernel_rfl) (by simp) ?_
    refine AllReadyH.cons rfl (fun K' hK'=>?_) (AllReadyH.cons rfl (fun K' hK'=>?_) (AllReadyH.nil))
    ·skip
     have hY:=hX.out.addB (below_new wn18 (.cells #[.slice none 0 0] 238)) (Nat.le_refl _) (heap_alloc_new _ _)
     go_simp
     generalize wn18.alloc (.cells #[.slice none 0 0] 238)=wn19 at hY ⊢
     refine hK'.out _ _ (HS.out _ hY.bel) (fun hHeld=>?_)
     clear hK' K' hX
     have hX:Hid (RgN W0 wn19 (some W0.heap.size) (some wn18.heap.size) none):=hY
     clear hY
     refine wpAnyH_ready (rs:=[14]) (by kernel_rfl) (by simp) ?_
     refine AllReadyH.cons rfl (fun K' hK'=>?_) (AllReadyH.nil)
     ·skip
      have hY:=hX.out.addC (below_new wn19 (.cells #[.int .i64 0] 3)) (Nat.le_refl _) (heap_alloc_new _ _)
      go_simp
      generalize wn19.alloc (.cells #[.int .i64 0] 3)=wn20 at hY ⊢
      refine hK'.out _ _ (HS.out _ hY.bel) (fun hHeld=>?_)
      clear hK' K' hX
      have hX:Hid (RgN W0 wn20 (some W0.heap.size) (some wn18.heap.size) (some wn19.heap.size)):=hY
      clear hY
      obtain⟨f1,f2,f3⟩:=RgN.cells hX.out
      obtain⟨p0,p1,p2,p3,pf0,pf1,pf2,pf3,pl⟩:=f1
      obtain⟨q0,qf0,ql⟩:=f2
      obtain⟨r0,rf0,rl⟩:=f3
      have dab:=hX.out.dab _ _ rfl rfl
      have dac:=hX.out.dac _ _ rfl rfl
      have dbc:=hX.out.dbc _ _ rfl rfl
      have hK3:=RgN.three hX.out (.int .i64 mc) (.int .i64 mt) (.int .i64 md) (.int .i64 mj) (.slice (some ⟨ab,ao,none⟩) i c) (.int .i64 (heldF (l.drop (i+1))))
      have HK3:Hid (_∧_∧_):=hK3
      clear hK3
      refine wpAnyH_ready (rs:=[15]) (by kernel_rfl) (by simp) ?_
      refine AllReadyH.cons rfl (fun K' hK'=>?_) AllReadyH.nil
      go_simp
      refine hK'.out _ _ (HS.out _ HK3.out.1) (fun hHeld=>?_)
      clear hK' K'
      refine wpAnyH_ready (rs:=[16]) (by kernel_rfl) (by simp) ?_
      refine AllReadyH.cons rfl (fun K' hK'=>?_) AllReadyH.nil
      go_simp
      refine hK'.out _ _ (HS.out _ HK3.out.2.1) (fun hHeld=>?_)
      clear hK' K'
      refine wpAnyH_ready (rs:=[17]) (by kernel_rfl) (by simp) ?_
      refine AllReadyH.cons rfl (fun K' hK'=>?_) AllReadyH.nil
      go_simp
      refine hK'.out _ _ (HS.out _ HK3.out.2.2.bel) (fun hHeld=>?_)
      clear hK' K'
      refine wpAnyH_done (by kernel_rfl) ?_ _
      refine NoPanic.normal ?_
      go_wp2_with fail
      go_meet
      case rel =>
       exact⟨_,_,_,rfl,rfl,rfl,RgN.fin HK3.out.2.2 HW0.out⟩
    ·skip
     have hY:=hX.out.addC (below_new wn18 (.cells #[.int .i64 0] 3)) (Nat.le_refl _) (heap_alloc_new _ _)
     go_simp
     generalize wn18.alloc (.cells #[.int .i64 0] 3)=wn21 at hY ⊢
     refine hK'.out _ _ (HS.out _ hY.bel) (fun hHeld=>?_)
     clear hK' K' hX
     have hX:Hid (RgN W0 wn21 (some W0.heap.size) none (some wn18.heap.size)):=hY
     clear hY
     refine wpAnyH_ready (rs:=[13]) (by kernel_rfl) (by simp) ?_
     refine AllReadyH.cons rfl (fun K' hK'=>?_) (AllReadyH.nil)
     ·skip
      have hY:=hX.out.addB (below_new wn21 (.cells #[.slice none 0 0] 238)) (Nat.le_refl _) (heap_alloc_new _ _)
      go_simp
      generalize wn21.alloc (.cells #[.slice none 0 0] 238)=wn22 at hY ⊢
      refine hK'.out _ _ (HS.out _ hY.bel) (fun hHeld=>?_)
      clear hK' K' hX
      have hX:Hid (RgN W0 wn22 (some W0.heap.size) (some wn21.heap.size) (some wn18.heap.size)):=hY
      clear hY
      obtain⟨f1,f2,f3⟩:=RgN.cells hX.out
      obtain⟨p0,p1,p2,p3,pf0,pf1,pf2,pf3,pl⟩:=f1
      obtain⟨q0,qf0,ql⟩:=f2
      obtain⟨r0,rf0,rl⟩:=f3
      have dab:=hX.out.dab _ _ rfl rfl
      have dac:=hX.out.dac _ _ rfl rfl
      have dbc:=hX.out.dbc _ _ rfl rfl
      have hK3:=RgN.three hX.out (.int .i64 mc) (.int .i64 mt) (.int .i64 md) (.int .i64 mj) (.slice (some ⟨ab,ao,none⟩) i c) (.int .i64 (heldF (l.drop (i+1))))
      have HK3:Hid (_∧_∧_):=hK3
      clear hK3
      refine wpAnyH_ready (rs:=[15]) (by kernel_rfl) (by simp) ?_
      refine AllReadyH.cons rfl (fun K' hK'=>?_) AllReadyH.nil
      go_simp
      refine hK'.out _ _ (HS.out _ HK3.out.1) (fun hHeld=>?_)
      clear hK' K'
      refine wpAnyH_ready (rs:=[16]) (by kernel_rfl) (by simp) ?_
      refine AllReadyH.cons rfl (fun K' hK'=>?_) AllReadyH.nil
      go_simp
      refine hK'.out _ _ (HS.out _ HK3.out.2.1) (fun hHeld=>?_)
      clear hK' K'
      refine wpAnyH_ready (rs:=[17]) (by kernel_rfl) (by simp) ?_
      refine AllReadyH.cons rfl (fun K' hK'=>?_) AllReadyH.nil
      go_simp
      refine hK'.out _ _ (HS.out _ HK3.out.2.2.bel) (fun hHeld=>?_)
      clear hK' K'
      refine wpAnyH_done (by kernel_rfl) ?_ _
      refine NoPanic.normal ?_
      go_wp2_with fail
      go_meet
      case rel =>
       exact⟨_,_,_,rfl,rfl,rfl,RgN.fin HK3.out.2.2 HW0.out⟩
   ·skip
    have hY:=hX.out.addB (below_new wn17 (.cells #[.slice none 0 0] 238)) (Nat.le_refl _) (heap_alloc_new _ _)
    go_simp
    generalize wn17.alloc (.cells #[.slice none 0 0] 238)=wn23 at hY ⊢
    refine hK'.out _ _ (HS.out _ hY.bel) (fun hHeld=>?_)
    clear hK' K' hX
    have hX:Hid (RgN W0 wn23 (some W0.heap.size) (some wn17.heap.size) none):=hY
    clear hY
    refine wpAnyH_ready (rs:=[11,14]) (by kernel_rfl) (by simp) ?_
    refine AllReadyH.cons rfl (fun K' hK'=>?_) (AllReadyH.cons rfl (fun K' hK'=>?_) (AllReadyH.nil))
    ·skip
     go_simp
     go_wp2_with (go_at_call 235;refine(holds_any wn23 (l.drop (i+1)) _ HL.out.1 HL.out.2.1 (HL.out.2.2 _ hX.out.bel)).mono ?_;rintro r wn24 ⟨rfl,hb9⟩)
     have hY:=hX.out.grow hb9
     refine hK'.out _ _ (HS.out _ hY.bel) (fun hHeld=>?_)
     clear hK' K' hX
     have hX:Hid (RgN W0 wn24 (some W0.heap.size) (some wn17.heap.size) none):=hY
     clear hY
     refine wpAnyH_ready (rs:=[14]) (by kernel_rfl) (by simp) ?_
     refine AllReadyH.cons rfl (fun K' hK'=>?_) (AllReadyH.nil)
     ·skip
      have hY:=hX.out.addC (below_new wn24 (.cells #[.int .i64 0] 3)) (Nat.le_refl _) (heap_alloc_new _ _)
      go_simp
      generalize wn24.alloc (.cells #[.int .i64 0] 3)=wn25 at hY ⊢
      refine hK'.out _ _ (HS.out _ hY.bel) (fun hHeld=>?_)
      clear hK' K' hX
      have hX:Hid (RgN W0 wn25 (some W0.heap.size) (some wn17.heap.size) (some wn24.heap.size)):=hY
      clear hY
      obtain⟨f1,f2,f3⟩:=RgN.cells hX.out
      obtain⟨p0,p1,p2,p3,pf0,pf1,pf2,pf3,pl⟩:=f1
      obtain⟨q0,qf0,ql⟩:=f2
      obtain⟨r0,rf0,rl⟩:=f3
      have dab:=hX.out.dab _ _ rfl rfl
      have dac:=hX.out.dac _ _ rfl rfl
      have dbc:=hX.out.dbc _ _ rfl rfl
      have hK3:=RgN.three hX.out (.int .i64 mc) (.int .i64 mt) (.int .i64 md) (.int .i64 mj) (.slice (some ⟨ab,ao,none⟩) i c) (.int .i64 (heldF (l.drop (i+1))))
      have HK3:Hid (_∧_∧_):=hK3
      clear hK3
      refine wpAnyH_ready (rs:=[15]) (by kernel_rfl) (by simp) ?_
      refine AllReadyH.cons rfl (fun K' hK'=>?_) AllReadyH.nil
      go_simp
      refine hK'.out _ _ (HS.out _ HK3.out.1) (fun hHeld=>?_)
      clear hK' K'
      refine wpAnyH_ready (rs:=[16]) (by kernel_rfl) (by simp) ?_
      refine AllReadyH.cons rfl (fun K' hK'=>?_) AllReadyH.nil
      go_simp
      refine hK'.out _ _ (HS.out _ HK3.out.2.1) (fun hHeld=>?_)
      clear hK' K'
      refine wpAnyH_ready (rs:=[17]) (by kernel_rfl) (by simp) ?_
      refine AllReadyH.cons rfl (fun K' hK'=>?_) AllReadyH.nil
      go_simp
      refine hK'.out _ _ (HS.out _ HK3.out.2.2.bel) (fun hHeld=>?_)
      clear hK' K'
      refine wpAnyH_done (by kernel_rfl) ?_ _
      refine NoPanic.normal ?_
      go_wp2_with fail
      go_meet
      case rel =>
       exact⟨_,_,_,rfl,rfl,rfl,RgN.fin HK3.out.2.2 HW0.out⟩
    ·skip
     have hY:=hX.out.addC (below_new wn23 (.cells #[.int .i64 0] 3)) (Nat.le_refl _) (heap_alloc_new _ _)
     go_simp
     generalize wn23.alloc (.cells #[.int .i64 0] 3)=wn26 at hY ⊢
     refine hK'.out _ _ (HS.out _ hY.bel) (fun hHeld=>?_)
     clear hK' K' hX
     have hX:Hid (RgN W0 wn26 (some W0.heap.size) (some wn17.heap.size) (some wn23.heap.size)):=hY
     clear hY
     refine wpAnyH_ready (rs:=[11]) (by kernel_rfl) (by simp) ?_
     refine AllReadyH.cons rfl (fun K' hK'=>?_) (AllReadyH.nil)
     ·skip
      go_simp
      go_wp2_with (go_at_call 235;refine(holds_any wn26 (l.drop (i+1)) _ HL.out.1 HL.out.2.1 (HL.out.2.2 _ hX.out.bel)).mono ?_;rintro r wn27 ⟨rfl,hb9⟩)
      have hY:=hX.out.grow hb9
      refine hK'.out _ _ (HS.out _ hY.bel) (fun hHeld=>?_)
      clear hK' K' hX
      have hX:Hid (RgN W0 wn27 (some W0.heap.size) (some wn17.heap.size) (some wn23.heap.size)):=hY
      clear hY
      obtain⟨f1,f2,f3⟩:=RgN.cells hX.out
      obtain⟨p0,p1,p2,p3,pf0,pf1,pf2,pf3,pl⟩:=f1
      obtain⟨q0,qf0,ql⟩:=f2
      obtain⟨r0,rf0,rl⟩:=f3
      have dab:=hX.out.dab _ _ rfl rfl
      have dac:=hX.out.dac _ _ rfl rfl
      have dbc:=hX.out.dbc _ _ rfl rfl
      have hK3:=RgN.three hX.out (.int .i64 mc) (.int .i64 mt) (.int .i64 md) (.int .i64 mj) (.slice (some ⟨ab,ao,none⟩) i c) (.int .i64 (heldF (l.drop (i+1))))
      have HK3:Hid (_∧_∧_):=hK3
      clear hK3
      refine wpAnyH_ready (rs:=[15]) (by kernel_rfl) (by simp) ?_
      refine AllReadyH.cons rfl (fun K' hK'=>?_) AllReadyH.nil
      go_simp
      refine hK'.out _ _ (HS.out _ HK3.out.1) (fun hHeld=>?_)
      clear hK' K'
      refine wpAnyH_ready (rs:=[16]) (by kernel_rfl) (by simp) ?_
      refine AllReadyH.cons rfl (fun K' hK'=>?_) AllReadyH.nil
      go_simp
      refine hK'.out _ _ (HS.out _ HK3.out.2.1) (fun hHeld=>?_)
      clear hK' K'
      refine wpAnyH_ready (rs:=[17]) (by kernel_rfl) (by simp) ?_
      refine AllReadyH.cons rfl (fun K' hK'=>?_) AllReadyH.nil
      go_simp
      refine hK'.out _ _ (HS.out _ HK3.out.2.2.bel) (fun hHeld=>?_)
      clear hK' K'
      refine wpAnyH_done (by kernel_rfl) ?_ _
      refine NoPanic.normal ?_
      go_wp2_with fail
      go_meet
      case rel =>
       exact⟨_,_,_,rfl,rfl,rfl,RgN.fin HK3.out.2.2 HW0.out⟩
   ·skip
    have hY:=hX.out.addC (below_new wn17 (.cells #[.int .i64 0] 3)) (Nat.le_refl _) (heap_alloc_new _ _)
    go_simp
    generalize wn17.alloc (.cells #[.int .i64 0] 3)=wn28 at hY ⊢
    refine hK'.out _ _ (HS.out _ hY.bel) (fun hHeld=>?_)
    clear hK' K' hX
    have hX:Hid (RgN W0 wn28 (some W0.heap.size) none (some wn17.heap.size)):=hY
    clear hY
    refine wpAnyH_ready (rs:=[11,13]) (by kernel_rfl) (by simp) ?_
    refine AllReadyH.cons rfl (fun K' hK'=>?_) (AllReadyH.cons rfl (fun K' hK'=>?_) (AllReadyH.nil))
    ·skip
     go_simp
     go_wp2_with (go_at_call 235;refine(holds_any wn28 (l.drop (i+1)) _ HL.out.1 HL.out.2.1 (HL.out.2.2 _ hX.out.bel)).mono ?_;rintro r wn29 ⟨rfl,hb9⟩)
     have hY:=hX.out.grow hb9
     refine hK'.out _ _ (HS.out _ hY.bel) (fun hHeld=>?_)
     clear hK' K' hX
     have hX:Hid (RgN W0 wn29 (some W0.heap.size) none (some wn17.heap.size)):=hY
     clear hY
     refine wpAnyH_ready (rs:=[13]) (by kernel_rfl) (by simp) ?_
     refine AllReadyH.cons rfl (fun K' hK'=>?_) (AllReadyH.nil)
     ·skip
      have hY:=hX.out.addB (below_new wn29 (.cells #[.slice none 0 0] 238)) (Nat.le_refl _) (heap_alloc_new _ _)
      go_simp
      generalize wn29.alloc (.cells #[.slice none 0 0] 238)=wn30 at hY ⊢
      refine hK'.out _ _ (HS.out _ hY.bel) (fun hHeld=>?_)
      clear hK' K' hX
      have hX:Hid (RgN W0 wn30 (some W0.heap.size) (some wn29.heap.size) (some wn17.heap.size)):=hY
      clear hY
      obtain⟨f1,f2,f3⟩:=RgN.cells hX.out
      obtain⟨p0,p1,p2,p3,pf0,pf1,pf2,pf3,pl⟩:=f1
      obtain⟨q0,qf0,ql⟩:=f2
      obtain⟨r0,rf0,rl⟩:=f3
      have dab:=hX.out.dab _ _ rfl rfl
      have dac:=hX.out.dac _ _ rfl rfl
      have dbc:=hX.out.dbc _ _ rfl rfl
      have hK3:=RgN.three hX.out (.int .i64 mc) (.int .i64 mt) (.int .i64 md) (.int .i64 mj) (.slice (some ⟨ab,ao,none⟩) i c) (.int .i64 (heldF (l.drop (i+1))))
      have HK3:Hid (_∧_∧_):=hK3
      clear hK3
      refine wpAnyH_ready (rs:=[15]) (by kernel_rfl) (by simp) ?_
      refine AllReadyH.cons rfl (fun K' hK'=>?_) AllReadyH.nil
      go_simp
      refine hK'.out _ _ (HS.out _ HK3.out.1) (fun hHeld=>?_)
      clear hK' K'
      refine wpAnyH_ready (rs:=[16]) (by kernel_rfl) (by simp) ?_
      refine AllReadyH.cons rfl (fun K' hK'=>?_) AllReadyH.nil
      go_simp
      refine hK'.out _ _ (HS.out _ HK3.out.2.1) (fun hHeld=>?_)
      clear hK' K'
      refine wpAnyH_ready (rs:=[17]) (by kernel_rfl) (by simp) ?_
      refine AllReadyH.cons rfl (fun K' hK'=>?_) AllReadyH.nil
      go_simp
      refine hK'.out _ _ (HS.out _ HK3.out.2.2.bel) (fun hHeld=>?_)
      clear hK' K'
      refine wpAnyH_done (by kernel_rfl) ?_ _
      refine NoPanic.normal ?_
      go_wp2_with fail
      go_meet
      case rel =>
       exact⟨_,_,_,rfl,rfl,rfl,RgN.fin HK3.out.2.2 HW0.out⟩
    ·skip
     have hY:=hX.out.addB (below_new wn28 (.cells #[.slice none 0 0] 238)) (Nat.le_refl _) (heap_alloc_new _ _)
     go_simp
     generalize wn28.alloc (.cells #[.slice none 0 0] 238)=wn31 at hY ⊢
     refine hK'.out _ _ (HS.out _ hY.bel) (fun hHeld=>?_)
     clear hK' K' hX
     have hX:Hid (RgN W0 wn31 (some W0.heap.size) (some wn28.heap.size) (some wn17.heap.size)):=hY
     clear hY
     refine wpAnyH_ready (rs:=[11]) (by kernel_rfl) (by simp) ?_
     refine AllReadyH.cons rfl (fun K' hK'=>?_) (AllReadyH.nil)
     ·skip
      go_simp
      go_wp2_with (go_at_call 235;refine(holds_any wn31 (l.drop (i+1)) _ HL.out.1 HL.out.2.1 (HL.out.2.2 _ hX.out.bel)).mono ?_;rintro r wn32 ⟨rfl,hb9⟩)
      have hY:=hX.out.grow hb9
      refine hK'.out _ _ (HS.out _ hY.bel) (fun hHeld=>?_)
      clear hK' K' hX
      have hX:Hid (RgN W0 wn32 (some W0.heap.size) (some wn28.heap.size) (some wn17.heap.size)):=hY
      clear hY
      obtain⟨f1,f2,f3⟩:=RgN.cells hX.out
      obtain⟨p0,p1,p2,p3,pf0,pf1,pf2,pf3,pl⟩:=f1
      obtain⟨q0,qf0,ql⟩:=f2
      obtain⟨r0,rf0,rl⟩:=f3
      have dab:=hX.out.dab _ _ rfl rfl
      have dac:=hX.out.dac _ _ rfl rfl
      have dbc:=hX.out.dbc _ _ rfl rfl
      have hK3:=RgN.three hX.out (.int .i64 mc) (.int .i64 mt) (.int .i64 md) (.int .i64 mj) (.slice (some ⟨ab,ao,none⟩) i c) (.int .i64 (heldF (l.drop (i+1))))
      have HK3:Hid (_∧_∧_):=hK3
      clear hK3
      refine wpAnyH_ready (rs:=[15]) (by kernel_rfl) (by simp) ?_
      refine AllReadyH.cons rfl (fun K' hK'=>?_) AllReadyH.nil
      go_simp
      refine hK'.out _ _ (HS.out _ HK3.out.1) (fun hHeld=>?_)
      clear hK' K'
      refine wpAnyH_ready (rs:=[16]) (by kernel_rfl) (by simp) ?_
      refine AllReadyH.cons rfl (fun K' hK'=>?_) AllReadyH.nil
      go_simp
      refine hK'.out _ _ (HS.out _ HK3.out.2.1) (fun hHeld=>?_)
      clear hK' K'
      refine wpAnyH_ready (rs:=[17]) (by kernel_rfl) (by simp) ?_
      refine AllReadyH.cons rfl (fun K' hK'=>?_) AllReadyH.nil
      go_simp
      refine hK'.out _ _ (HS.out _ HK3.out.2.2.bel) (fun hHeld=>?_)
      clear hK' K'
      refine wpAnyH_done (by kernel_rfl) ?_ _
      refine NoPanic.normal ?_
      go_wp2_with fail
      go_meet
      case rel =>
       exact⟨_,_,_,rfl,rfl,rfl,RgN.fin HK3.out.2.2 HW0.out⟩
  ·skip
   have hY:=hX.out.addB (below_new W0 (.cells #[.slice none 0 0] 238)) (Nat.le_refl _) (heap_alloc_new _ _)
   go_simp
   generalize W0.alloc (.cells #[.slice none 0 0] 238)=wn33 at hY ⊢
   refine hK'.out _ _ (HS.out _ hY.bel) (fun hHeld=>?_)
   clear hK' K' hX
   have hX:Hid (RgN W0 wn33 none (some W0.heap.size) none):=hY
   clear hY
   refine wpAnyH_ready (rs:=[11,12,14]) (by kernel_rfl) (by simp) ?_
   refine AllReadyH.cons rfl (fun K' hK'=>?_) (AllReadyH.cons rfl (fun K' hK'=>?_) (AllReadyH.cons rfl (fun K' hK'=>?_) (AllReadyH.nil)))
   ·skip
    go_simp
    go_wp2_with (go_at_call 235;refine(holds_any wn33 (l.drop (i+1)) _ HL.out.1 HL.out.2.1 (HL.out.2.2 _ hX.out.bel)).mono ?_;rintro r wn34 ⟨rfl,hb9⟩)
    have hY:=hX.out.grow hb9
    refine hK'.out _ _ (HS.out _ hY.bel) (fun hHeld=>?_)
    clear hK' K' hX
    have hX:Hid (RgN W0 wn34 none (some W0.heap.size) none):=hY
    clear hY
    refine wpAnyH_ready (rs:=[12,14]) (by kernel_rfl) (by simp) ?_
    refine AllReadyH.cons rfl (fun K' hK'=>?_) (AllReadyH.cons rfl (fun K' hK'=>?_) (AllReadyH.nil))
    ·skip
     have hY:=hX.out.addA (below_new wn34 (.cells #[.int .i64 0,.int .i64 0,.int .i64 0,.int .i64 0] 240)) (Nat.le_refl _) (heap_alloc_new _ _)
     go_simp
     generalize wn34.alloc (.cells #[.int .i64 0,.int .i64 0,.int .i64 0,.int .i64 0] 240)=wn35 at hY ⊢
     refine hK'.out _ _ (HS.out _ hY.bel) (fun hHeld=>?_)
     clear hK' K' hX
     have hX:Hid (RgN W0 wn35 (some wn34.heap.size) (some W0.heap.size) none):=hY
     clear hY
     refine wpAnyH_ready (rs:=[14]) (by kernel_rfl) (by simp) ?_
     refine AllReadyH.cons rfl (fun K' hK'=>?_) (AllReadyH.nil)
     ·skip
      have hY:=hX.out.addC (below_new wn35 (.cells #[.int .i64 0] 3)) (Nat.le_refl _) (heap_alloc_new _ _)
      go_simp
      generalize wn35.alloc (.cells #[.int .i64 0] 3)=wn36 at hY ⊢
      refine hK'.out _ _ (HS.out _ hY.bel) (fun hHeld=>?_)
      clear hK' K' hX
      have hX:Hid (RgN W0 wn36 (some wn34.heap.size) (some W0.heap.size) (some wn35.heap.size)):=hY
      clear hY
      obtain⟨f1,f2,f3⟩:=RgN.cells hX.out
      obtain⟨p0,p1,p2,p3,pf0,pf1,pf2,pf3,pl⟩:=f1
      obtain⟨q0,qf0,ql⟩:=f2
      obtain⟨r0,rf0,rl⟩:=f3
      have dab:=hX.out.dab _ _ rfl rfl
      have dac:=hX.out.dac _ _ rfl rfl
      have dbc:=hX.out.dbc _ _ rfl rfl
      have hK3:=RgN.three hX.out (.int .i64 mc) (.int .i64 mt) (.int .i64 md) (.int .i64 mj) (.slice (some ⟨ab,ao,none⟩) i c) (.int .i64 (heldF (l.drop (i+1))))
      have HK3:Hid (_∧_∧_):=hK3
      clear hK3
      refine wpAnyH_ready (rs:=[15]) (by kernel_rfl) (by simp) ?_
      refine AllReadyH.cons rfl (fun K' hK'=>?_) AllReadyH.nil
      go_simp
      refine hK'.out _ _ (HS.out _ HK3.out.1) (fun hHeld=>?_)
      clear hK' K'
      refine wpAnyH_ready (rs:=[16]) (by kernel_rfl) (by simp) ?_
      refine AllReadyH.cons rfl (fun K' hK'=>?_) AllReadyH.nil
      go_simp
      refine hK'.out _ _ (HS.out _ HK3.out.2.1) (fun hHeld=>?_)
      clear hK' K'
      refine wpAnyH_ready (rs:=[17]) (by kernel_rfl) (by simp) ?_
      refine AllReadyH.cons rfl (fun K' hK'=>?_) AllReadyH.nil
      go_simp
      refine hK'.out _ _ (HS.out _ HK3.out.2.2.bel) (fun hHeld=>?_)
      clear hK' K'
      refine wpAnyH_done (by kernel_rfl) ?_ _
      refine NoPanic.normal ?_
      go_wp2_with fail
      go_meet
      case rel =>
       exact⟨_,_,_,rfl,rfl,rfl,RgN.fin HK3.out.2.2 HW0.out⟩
    ·skip
     have hY:=hX.out.addC (below_new wn34 (.cells #[.int .i64 0] 3)) (Nat.le_refl _) (heap_alloc_new _ _)
     go_simp
     generalize wn34.alloc (.cells #[.int .i64 0] 3)=wn37 at hY ⊢
     refine hK'.out _ _ (HS.out _ hY.bel) (fun hHeld=>?_)
     clear hK' K' hX
     have hX:Hid (RgN W0 wn37 none (some W0.heap.size) (some wn34.heap.size)):=hY
     clear hY
     refine wpAnyH_ready (rs:=[12]) (by kernel_rfl) (by simp) ?_
     refine AllReadyH.cons rfl (fun K' hK'=>?_) (AllReadyH.nil)
     ·skip
      have hY:=hX.out.addA (below_new wn37 (.cells #[.int .i64 0,.int .i64 0,.int .i64 0,.int .i64 0] 240)) (Nat.le_refl _) (heap_alloc_new _ _)
      go_simp
      generalize wn37.alloc (.cells #[.int .i64 0,.int .i64 0,.int .i64 0,.int .i64 0] 240)=wn38 at hY ⊢
      refine hK'.out _ _ (HS.out _ hY.bel) (fun hHeld=>?_)
      clear hK' K' hX
      have hX:Hid (RgN W0 wn38 (some wn37.heap.size) (some W0.heap.size) (some wn34.heap.size)):=hY
      clear hY
      obtain⟨f1,f2,f3⟩:=RgN.cells hX.out
      obtain⟨p0,p1,p2,p3,pf0,pf1,pf2,pf3,pl⟩:=f1
      obtain⟨q0,qf0,ql⟩:=f2
      obtain⟨r0,rf0,rl⟩:=f3
      have dab:=hX.out.dab _ _ rfl rfl
      have dac:=hX.out.dac _ _ rfl rfl
      have dbc:=hX.out.dbc _ _ rfl rfl
      have hK3:=RgN.three hX.out (.int .i64 mc) (.int .i64 mt) (.int .i64 md) (.int .i64 mj) (.slice (some ⟨ab,ao,none⟩) i c) (.int .i64 (heldF (l.drop (i+1))))
      have HK3:Hid (_∧_∧_):=hK3
      clear hK3
      refine wpAnyH_ready (rs:=[15]) (by kernel_rfl) (by simp) ?_
      refine AllReadyH.cons rfl (fun K' hK'=>?_) AllReadyH.nil
      go_simp
      refine hK'.out _ _ (HS.out _ HK3.out.1) (fun hHeld=>?_)
      clear hK' K'
      refine wpAnyH_ready (rs:=[16]) (by kernel_rfl) (by simp) ?_
      refine AllReadyH.cons rfl (fun K' hK'=>?_) AllReadyH.nil
      go_simp
      refine hK'.out _ _ (HS.out _ HK3.out.2.1) (fun hHeld=>?_)
      clear hK' K'
      refine wpAnyH_ready (rs:=[17]) (by kernel_rfl) (by simp) ?_
      refine AllReadyH.cons rfl (fun K' hK'=>?_) AllReadyH.nil
      go_simp
      refine hK'.out _ _ (HS.out _ HK3.out.2.2.bel) (fun hHeld=>?_)
      clear hK' K'
      refine wpAnyH_done (by kernel_rfl) ?_ _
      refine NoPanic.normal ?_
      go_wp2_with fail
      go_meet
      case rel =>
       exact⟨_,_,_,rfl,rfl,rfl,RgN.fin HK3.out.2.2 HW0.out⟩
   ·skip
    have hY:=hX.out.addA (below_new wn33 (.cells #[.int .i64 0,.int .i64 0,.int .i64 0,.int .i64 0] 240)) (Nat.le_refl _) (heap_alloc_new _ _)
    go_simp
    generalize wn33.alloc (.cells #[.int .i64 0,.int .i64 0,.int .i64 0,.int .i64 0] 240)=wn39 at hY ⊢
    refine hK'.out _ _ (HS.out _ hY.bel) (fun hHeld=>?_)
    clear hK' K' hX
    have hX:Hid (RgN W0 wn39 (some wn33.heap.size) (some W0.heap.size) none):=hY
    clear hY
    refine wpAnyH_ready (rs:=[11,14]) (by kernel_rfl) (by simp) ?_
    refine AllReadyH.cons rfl (fun K' hK'=>?_) (AllReadyH.cons rfl (fun K' hK'=>?_) (AllReadyH.nil))
    ·skip
     go_simp
     go_wp2_with (go_at_call 235;refine(holds_any wn39 (l.drop (i+1)) _ HL.out.1 HL.out.2.1 (HL.out.2.2 _ hX.out.bel)).mono ?_;rintro r wn40 ⟨rfl,hb9⟩)
     have hY:=hX.out.grow hb9
     refine hK'.out _ _ (HS.out _ hY.bel) (fun hHeld=>?_)
     clear hK' K' hX
     have hX:Hid (RgN W0 wn40 (some wn33.heap.size) (some W0.heap.size) none):=hY
     clear hY
     refine wpAnyH_ready (rs:=[14]) (by kernel_rfl) (by simp) ?_
     refine AllReadyH.cons rfl (fun K' hK'=>?_) (AllReadyH.nil)
     ·skip
      have hY:=hX.out.addC (below_new wn40 (.cells #[.int .i64 0] 3)) (Nat.le_refl _) (heap_alloc_new _ _)
      go_simp
      generalize wn40.alloc (.cells #[.int .i64 0] 3)=wn41 at hY ⊢
      refine hK'.out _ _ (HS.out _ hY.bel) (fun hHeld=>?_)
      clear hK' K' hX
      have hX:Hid (RgN W0 wn41 (some wn33.heap.size) (some W0.heap.size) (some wn40.heap.size)):=hY
      clear hY
      obtain⟨f1,f2,f3⟩:=RgN.cells hX.out
      obtain⟨p0,p1,p2,p3,pf0,pf1,pf2,pf3,pl⟩:=f1
      obtain⟨q0,qf0,ql⟩:=f2
      obtain⟨r0,rf0,rl⟩:=f3
      have dab:=hX.out.dab _ _ rfl rfl
      have dac:=hX.out.dac _ _ rfl rfl
      have dbc:=hX.out.dbc _ _ rfl rfl
      have hK3:=RgN.three hX.out (.int .i64 mc) (.int .i64 mt) (.int .i64 md) (.int .i64 mj) (.slice (some ⟨ab,ao,none⟩) i c) (.int .i64 (heldF (l.drop (i+1))))
      have HK3:Hid (_∧_∧_):=hK3
      clear hK3
      refine wpAnyH_ready (rs:=[15]) (by kernel_rfl) (by simp) ?_
      refine AllReadyH.cons rfl (fun K' hK'=>?_) AllReadyH.nil
      go_simp
      refine hK'.out _ _ (HS.out _ HK3.out.1) (fun hHeld=>?_)
      clear hK' K'
      refine wpAnyH_ready (rs:=[16]) (by kernel_rfl) (by simp) ?_
      refine AllReadyH.cons rfl (fun K' hK'=>?_) AllReadyH.nil
      go_simp
      refine hK'.out _ _ (HS.out _ HK3.out.2.1) (fun hHeld=>?_)
      clear hK' K'
      refine wpAnyH_ready (rs:=[17]) (by kernel_rfl) (by simp) ?_
      refine AllReadyH.cons rfl (fun K' hK'=>?_) AllReadyH.nil
      go_simp
      refine hK'.out _ _ (HS.out _ HK3.out.2.2.bel) (fun hHeld=>?_)
      clear hK' K'
      refine wpAnyH_done (by kernel_rfl) ?_ _
      refine NoPanic.normal ?_
      go_wp2_with fail
      go_meet
      case rel =>
       exact⟨_,_,_,rfl,rfl,rfl,RgN.fin HK3.out.2.2 HW0.out⟩
    ·skip
     have hY:=hX.out.addC (below_new wn39 (.cells #[.int .i64 0] 3)) (Nat.le_refl _) (heap_alloc_new _ _)
     go_simp
     generalize wn39.alloc (.cells #[.int .i64 0] 3)=wn42 at hY ⊢
     refine hK'.out _ _ (HS.out _ hY.bel) (fun hHeld=>?_)
     clear hK' K' hX
     have hX:Hid (RgN W0 wn42 (some wn33.heap.size) (some W0.heap.size) (some wn39.heap.size)):=hY
     clear hY
     refine wpAnyH_ready (rs:=[11]) (by kernel_rfl) (by simp) ?_
     refine AllReadyH.cons rfl (fun K' hK'=>?_) (AllReadyH.nil)
     ·skip
      go_simp
      go_wp2_with (go_at_call 235;refine(holds_any wn42 (l.drop (i+1)) _ HL.out.1 HL.out.2.1 (HL.out.2.2 _ hX.out.bel)).mono ?_;rintro r wn43 ⟨rfl,hb9⟩)
      have hY:=hX.out.grow hb9
      refine hK'.out _ _ (HS.out _ hY.bel) (fun hHeld=>?_)
      clear hK' K' hX
      have hX:Hid (RgN W0 wn43 (some wn33.heap.size) (some W0.heap.size) (some wn39.heap.size)):=hY
      clear hY
      obtain⟨f1,f2,f3⟩:=RgN.cells hX.out
      obtain⟨p0,p1,p2,p3,pf0,pf1,pf2,pf3,pl⟩:=f1
      obtain⟨q0,qf0,ql⟩:=f2
      obtain⟨r0,rf0,rl⟩:=f3
      have dab:=hX.out.dab _ _ rfl rfl
      have dac:=hX.out.dac _ _ rfl rfl
      have dbc:=hX.out.dbc _ _ rfl rfl
      have hK3:=RgN.three hX.out (.int .i64 mc) (.int .i64 mt) (.int .i64 md) (.int .i64 mj) (.slice (some ⟨ab,ao,none⟩) i c) (.int .i64 (heldF (l.drop (i+1))))
      have HK3:Hid (_∧_∧_):=hK3
      clear hK3
      refine wpAnyH_ready (rs:=[15]) (by kernel_rfl) (by simp) ?_
      refine AllReadyH.cons rfl (fun K' hK'=>?_) AllReadyH.nil
      go_simp
      refine hK'.out _ _ (HS.out _ HK3.out.1) (fun hHeld=>?_)
      clear hK' K'
      refine wpAnyH_ready (rs:=[16]) (by kernel_rfl) (by simp) ?_
      refine AllReadyH.cons rfl (fun K' hK'=>?_) AllReadyH.nil
      go_simp
      refine hK'.out _ _ (HS.out _ HK3.out.2.1) (fun hHeld=>?_)
      clear hK' K'
      refine wpAnyH_ready (rs:=[17]) (by kernel_rfl) (by simp) ?_
      refine AllReadyH.cons rfl (fun K' hK'=>?_) AllReadyH.nil
      go_simp
      refine hK'.out _ _ (HS.out _ HK3.out.2.2.bel) (fun hHeld=>?_)
      clear hK' K'
      refine wpAnyH_done (by kernel_rfl) ?_ _
      refine NoPanic.normal ?_
      go_wp2_with fail
      go_meet
      case rel =>
       exact⟨_,_,_,rfl,rfl,rfl,RgN.fin HK3.out.2.2 HW0.out⟩
   ·skip
    have hY:=hX.out.addC (below_new wn33 (.cells #[.int .i64 0] 3)) (Nat.le_refl _) (heap_alloc_new _ _)
    go_simp
    generalize wn33.alloc (.cells #[.int .i64 0] 3)=wn44 at hY ⊢
    refine hK'.out _ _ (HS.out _ hY.bel) (fun hHeld=>?_)
    clear hK' K' hX
    have hX:Hid (RgN W0 wn44 none (some W0.heap.size) (some wn33.heap.size)):=hY
    clear hY
    refine wpAnyH_ready (rs:=[11,12]) (by kernel_rfl) (by simp) ?_
    refine AllReadyH.cons rfl (fun K' hK'=>?_) (AllReadyH.cons rfl (fun K' hK'=>?_) (AllReadyH.nil))
    ·skip
     go_simp
     go_wp2_with (go_at_call 235;refine(holds_any wn44 (l.drop (i+1)) _ HL.out.1 HL.out.2.1 (HL.out.2.2 _ hX.out.bel)).mono ?_;rintro r wn45 ⟨rfl,hb9⟩)
     have hY:=hX.out.grow hb9
     refine hK'.out _ _ (HS.out _ hY.bel) (fun hHeld=>?_)
     clear hK' K' hX
     have hX:Hid (RgN W0 wn45 none (some W0.heap.size) (some wn33.heap.size)):=hY
     clear hY
     refine wpAnyH_ready (rs:=[12]) (by kernel_rfl) (by simp) ?_
     refine AllReadyH.cons rfl (fun K' hK'=>?_) (AllReadyH.nil)
     ·skip
      have hY:=hX.out.addA (below_new wn45 (.cells #[.int .i64 0,.int .i64 0,.int .i64 0,.int .i64 0] 240)) (Nat.le_refl _) (heap_alloc_new _ _)
      go_simp
      generalize wn45.alloc (.cells #[.int .i64 0,.int .i64 0,.int .i64 0,.int .i64 0] 240)=wn46 at hY ⊢
      refine hK'.out _ _ (HS.out _ hY.bel) (fun hHeld=>?_)
      clear hK' K' hX
      have hX:Hid (RgN W0 wn46 (some wn45.heap.size) (some W0.heap.size) (some wn33.heap.size)):=hY
      clear hY
      obtain⟨f1,f2,f3⟩:=RgN.cells hX.out
      obtain⟨p0,p1,p2,p3,pf0,pf1,pf2,pf3,pl⟩:=f1
      obtain⟨q0,qf0,ql⟩:=f2
      obtain⟨r0,rf0,rl⟩:=f3
      have dab:=hX.out.dab _ _ rfl rfl
      have dac:=hX.out.dac _ _ rfl rfl
      have dbc:=hX.out.dbc _ _ rfl rfl
      have hK3:=RgN.three hX.out (.int .i64 mc) (.int .i64 mt) (.int .i64 md) (.int .i64 mj) (.slice (some ⟨ab,ao,none⟩) i c) (.int .i64 (heldF (l.drop (i+1))))
      have HK3:Hid (_∧_∧_):=hK3
      clear hK3
      refine wpAnyH_ready (rs:=[15]) (by kernel_rfl) (by simp) ?_
      refine AllReadyH.cons rfl (fun K' hK'=>?_) AllReadyH.nil
      go_simp
      refine hK'.out _ _ (HS.out _ HK3.out.1) (fun hHeld=>?_)
      clear hK' K'
      refine wpAnyH_ready (rs:=[16]) (by kernel_rfl) (by simp) ?_
      refine AllReadyH.cons rfl (fun K' hK'=>?_) AllReadyH.nil
      go_simp
      refine hK'.out _ _ (HS.out _ HK3.out.2.1) (fun hHeld=>?_)
      clear hK' K'
      refine wpAnyH_ready (rs:=[17]) (by kernel_rfl) (by simp) ?_
      refine AllReadyH.cons rfl (fun K' hK'=>?_) AllReadyH.nil
      go_simp
      refine hK'.out _ _ (HS.out _ HK3.out.2.2.bel) (fun hHeld=>?_)
      clear hK' K'
      refine wpAnyH_done (by kernel_rfl) ?_ _
      refine NoPanic.normal ?_
      go_wp2_with fail
      go_meet
      case rel =>
       exact⟨_,_,_,rfl,rfl,rfl,RgN.fin HK3.out.2.2 HW0.out⟩
    ·skip
     have hY:=hX.out.addA (below_new wn44 (.cells #[.int .i64 0,.int .i64 0,.int .i64 0,.int .i64 0] 240)) (Nat.le_refl _) (heap_alloc_new _ _)
     go_simp
     generalize wn44.alloc (.cells #[.int .i64 0,.int .i64 0,.int .i64 0,.int .i64 0] 240)=wn47 at hY ⊢
     refine hK'.out _ _ (HS.out _ hY.bel) (fun hHeld=>?_)
     clear hK' K' hX
     have hX:Hid (RgN W0 wn47 (some wn44.heap.size) (some W0.heap.size) (some wn33.heap.size)):=hY
     clear hY
     refine wpAnyH_ready (rs:=[11]) (by kernel_rfl) (by simp) ?_
     refine AllReadyH.cons rfl (fun K' hK'=>?_) (AllReadyH.nil)
     ·skip
      go_simp
      go_wp2_with (go_at_call 235;refine(holds_any wn47 (l.drop (i+1)) _ HL.out.1 HL.out.2.1 (HL.out.2.2 _ hX.out.bel)).mono ?_;rintro r wn48 ⟨rfl,hb9⟩)
      have hY:=hX.out.grow hb9
      refine hK'.out _ _ (HS.out _ hY.bel) (fun hHeld=>?_)
      clear hK' K' hX
      have hX:Hid (RgN W0 wn48 (some wn44.heap.size) (some W0.heap.size) (some wn33.heap.size)):=hY
      clear hY
      obtain⟨f1,f2,f3⟩:=RgN.cells hX.out
      obtain⟨p0,p1,p2,p3,pf0,pf1,pf2,pf3,pl⟩:=f1
      obtain⟨q0,qf0,ql⟩:=f2
      obtain⟨r0,rf0,rl⟩:=f3
      have dab:=hX.out.dab _ _ rfl rfl
      have dac:=hX.out.dac _ _ rfl rfl
      have dbc:=hX.out.dbc _ _ rfl rfl
      have hK3:=RgN.three hX.out (.int .i64 mc) (.int .i64 mt) (.int .i64 md) (.int .i64 mj) (.slice (some ⟨ab,ao,none⟩) i c) (.int .i64 (heldF (l.drop (i+1))))
      have HK3:Hid (_∧_∧_):=hK3
      clear hK3
      refine wpAnyH_ready (rs:=[15]) (by kernel_rfl) (by simp) ?_
      refine AllReadyH.cons rfl (fun K' hK'=>?_) AllReadyH.nil
      go_simp
      refine hK'.out _ _ (HS.out _ HK3.out.1) (fun hHeld=>?_)
      clear hK' K'
      refine wpAnyH_ready (rs:=[16]) (by kernel_rfl) (by simp) ?_
      refine AllReadyH.cons rfl (fun K' hK'=>?_) AllReadyH.nil
      go_simp
      refine hK'.out _ _ (HS.out _ HK3.out.2.1) (fun hHeld=>?_)
      clear hK' K'
      refine wpAnyH_ready (rs:=[17]) (by kernel_rfl) (by simp) ?_
      refine AllReadyH.cons rfl (fun K' hK'=>?_) AllReadyH.nil
      go_simp
      refine hK'.out _ _ (HS.out _ HK3.out.2.2.bel) (fun hHeld=>?_)
      clear hK' K'
      refine wpAnyH_done (by kernel_rfl) ?_ _
      refine NoPanic.normal ?_
      go_wp2_with fail
      go_meet
      case rel =>
       exact⟨_,_,_,rfl,rfl,rfl,RgN.fin HK3.out.2.2 HW0.out⟩
  ·skip
   have hY:=hX.out.addC (below_new W0 (.cells #[.int .i64 0] 3)) (Nat.le_refl _) (heap_alloc_new _ _)
   go_simp
   generalize W0.alloc (.cells #[.int .i64 0] 3)=wn49 at hY ⊢
   refine hK'.out _ _ (HS.out _ hY.bel) (fun hHeld=>?_)
   clear hK' K' hX
   have hX:Hid (RgN W0 wn49 none none (some W0.heap.size)):=hY
   clear hY
   refine wpAnyH_ready (rs:=[11,12,13]) (by kernel_rfl) (by simp) ?_
   refine AllReadyH.cons rfl (fun K' hK'=>?_) (AllReadyH.cons rfl (fun K' hK'=>?_) (AllReadyH.cons rfl (fun K' hK'=>?_) (AllReadyH.nil)))
   ·skip
    go_simp
    go_wp2_with (go_at_call 235;refine(holds_any wn49 (l.drop (i+1)) _ HL.out.1 HL.out.2.1 (HL.out.2.2 _ hX.out.bel)).mono ?_;rintro r wn50 ⟨rfl,hb9⟩)
    have hY:=hX.out.grow hb9
    refine hK'.out _ _ (HS.out _ hY.bel) (fun hHeld=>?_)
    clear hK' K' hX
    have hX:Hid (RgN W0 wn50 none none (some W0.heap.size)):=hY
    clear hY
    refine wpAnyH_ready (rs:=[12,13]) (by kernel_rfl) (by simp) ?_
    refine AllReadyH.cons rfl (fun K' hK'=>?_) (AllReadyH.cons rfl (fun K' hK'=>?_) (AllReadyH.nil))
    ·skip
     have hY:=hX.out.addA (below_new wn50 (.cells #[.int .i64 0,.int .i64 0,.int .i64 0,.int .i64 0] 240)) (Nat.le_refl _) (heap_alloc_new _ _)
     go_simp
     generalize wn50.alloc (.cells #[.int .i64 0,.int .i64 0,.int .i64 0,.int .i64 0] 240)=wn51 at hY ⊢
     refine hK'.out _ _ (HS.out _ hY.bel) (fun hHeld=>?_)
     clear hK' K' hX
     have hX:Hid (RgN W0 wn51 (some wn50.heap.size) none (some W0.heap.size)):=hY
     clear hY
     refine wpAnyH_ready (rs:=[13]) (by kernel_rfl) (by simp) ?_
     refine AllReadyH.cons rfl (fun K' hK'=>?_) (AllReadyH.nil)
     ·skip
      have hY:=hX.out.addB (below_new wn51 (.cells #[.slice none 0 0] 238)) (Nat.le_refl _) (heap_alloc_new _ _)
      go_simp
      generalize wn51.alloc (.cells #[.slice none 0 0] 238)=wn52 at hY ⊢
      refine hK'.out _ _ (HS.out _ hY.bel) (fun hHeld=>?_)
      clear hK' K' hX
      have hX:Hid (RgN W0 wn52 (some wn50.heap.size) (some wn51.heap.size) (some W0.heap.size)):=hY
      clear hY
      obtain⟨f1,f2,f3⟩:=RgN.cells hX.out
      obtain⟨p0,p1,p2,p3,pf0,pf1,pf2,pf3,pl⟩:=f1
      obtain⟨q0,qf0,ql⟩:=f2
      obtain⟨r0,rf0,rl⟩:=f3
      have dab:=hX.out.dab _ _ rfl rfl
      have dac:=hX.out.dac _ _ rfl rfl
      have dbc:=hX.out.dbc _ _ rfl rfl
      have hK3:=RgN.three hX.out (.int .i64 mc) (.int .i64 mt) (.int .i64 md) (.int .i64 mj) (.slice (some ⟨ab,ao,none⟩) i c) (.int .i64 (heldF (l.drop (i+1))))
      have HK3:Hid (_∧_∧_):=hK3
      clear hK3
      refine wpAnyH_ready (rs:=[15]) (by kernel_rfl) (by simp) ?_
      refine AllReadyH.cons rfl (fun K' hK'=>?_) AllReadyH.nil
      go_simp
      refine hK'.out _ _ (HS.out _ HK3.out.1) (fun hHeld=>?_)
      clear hK' K'
      refine wpAnyH_ready (rs:=[16]) (by kernel_rfl) (by simp) ?_
      refine AllReadyH.cons rfl (fun K' hK'=>?_) AllReadyH.nil
      go_simp
      refine hK'.out _ _ (HS.out _ HK3.out.2.1) (fun hHeld=>?_)
      clear hK' K'
      refine wpAnyH_ready (rs:=[17]) (by kernel_rfl) (by simp) ?_
      refine AllReadyH.cons rfl (fun K' hK'=>?_) AllReadyH.nil
      go_simp
      refine hK'.out _ _ (HS.out _ HK3.out.2.2.bel) (fun hHeld=>?_)
      clear hK' K'
      refine wpAnyH_done (by kernel_rfl) ?_ _
      refine NoPanic.normal ?_
      go_wp2_with fail
      go_meet
      case rel =>
       exact⟨_,_,_,rfl,rfl,rfl,RgN.fin HK3.out.2.2 HW0.out⟩
    ·skip
     have hY:=hX.out.addB (below_new wn50 (.cells #[.slice none 0 0] 238)) (Nat.le_refl _) (heap_alloc_new _ _)
     go_simp
     generalize wn50.alloc (.cells #[.slice none 0 0] 238)=wn53 at hY ⊢
     refine hK'.out _ _ (HS.out _ hY.bel) (fun hHeld=>?_)
     clear hK' K' hX
     have hX:Hid (RgN W0 wn53 none (some wn50.heap.size) (some W0.heap.size)):=hY
     clear hY
     refine wpAnyH_ready (rs:=[12]) (by kernel_rfl) (by simp) ?_
     refine AllReadyH.cons rfl (fun K' hK'=>?_) (AllReadyH.nil)
     ·skip
      have hY:=hX.out.addA (below_new wn53 (.cells #[.int .i64 0,.int .i64 0,.int .i64 0,.int .i64 0] 240)) (Nat.le_refl _) (heap_alloc_new _ _)
      go_simp
      generalize wn53.alloc (.cells #[.int .i64 0,.int .i64 0,.int .i64 0,.int .i64 0] 240)=wn54 at hY ⊢
      refine hK'.out _ _ (HS.out _ hY.bel) (fun hHeld=>?_)
      clear hK' K' hX
      have hX:Hid (RgN W0 wn54 (some wn53.heap.size) (some wn50.heap.size) (some W0.heap.size)):=hY
      clear hY
      obtain⟨f1,f2,f3⟩:=RgN.cells hX.out
      obtain⟨p0,p1,p2,p3,pf0,pf1,pf2,pf3,pl⟩:=f1
      obtain⟨q0,qf0,ql⟩:=f2
      obtain⟨r0,rf0,rl⟩:=f3
      have dab:=hX.out.dab _ _ rfl rfl
      have dac:=hX.out.dac _ _ rfl rfl
      have dbc:=hX.out.dbc _ _ rfl rfl
      have hK3:=RgN.three hX.out (.int .i64 mc) (.int .i64 mt) (.int .i64 md) (.int .i64 mj) (.slice (some ⟨ab,ao,none⟩) i c) (.int .i64 (heldF (l.drop (i+1))))
      have HK3:Hid (_∧_∧_):=hK3
      clear hK3
      refine wpAnyH_ready (rs:=[15]) (by kernel_rfl) (by simp) ?_
      refine AllReadyH.cons rfl (fun K' hK'=>?_) AllReadyH.nil
      go_simp
      refine hK'.out _ _ (HS.out _ HK3.out.1) (fun hHeld=>?_)
      clear hK' K'
      refine wpAnyH_ready (rs:=[16]) (by kernel_rfl) (by simp) ?_
      refine AllReadyH.cons rfl (fun K' hK'=>?_) AllReadyH.nil
      go_simp
      refine hK'.out _ _ (HS.out _ HK3.out.2.1) (fun hHeld=>?_)
      clear hK' K'
      refine wpAnyH_ready (rs:=[17]) (by kernel_rfl) (by simp) ?_
      refine AllReadyH.cons rfl (fun K' hK'=>?_) AllReadyH.nil
      go_simp
      refine hK'.out _ _ (HS.out _ HK3.out.2.2.bel) (fun hHeld=>?_)
      clear hK' K'
      refine wpAnyH_done (by kernel_rfl) ?_ _
      refine NoPanic.normal ?_
      go_wp2_with fail
      go_meet
      case rel =>
       exact⟨_,_,_,rfl,rfl,rfl,RgN.fin HK3.out.2.2 HW0.out⟩
   ·skip
    have hY:=hX.out.addA (below_new wn49 (.cells #[.int .i64 0,.int .i64 0,.int .i64 0,.int .i64 0] 240)) (Nat.le_refl _) (heap_alloc_new _ _)
    go_simp
    generalize wn49.alloc (.cells #[.int .i64 0,.int .i64 0,.int .i64 0,.int .i64 0] 240)=wn55 at hY ⊢
    refine hK'.out _ _ (HS.out _ hY.bel) (fun hHeld=>?_)
    clear hK' K' hX
    have hX:Hid (RgN W0 wn55 (some wn49.heap.size) none (some W0.heap.size)):=hY
    clear hY
    refine wpAnyH_ready (rs:=[11,13]) (by kernel_rfl) (by simp) ?_
    refine AllReadyH.cons rfl (fun K' hK'=>?_) (AllReadyH.cons rfl (fun K' hK'=>?_) (AllReadyH.nil))
    ·skip
     go_simp
     go_wp2_with (go_at_call 235;refine(holds_any wn55 (l.drop (i+1)) _ HL.out.1 HL.out.2.1 (HL.out.2.2 _ hX.out.bel)).mono ?_;rintro r wn56 ⟨rfl,hb9⟩)
     have hY:=hX.out.grow hb9
     refine hK'.out _ _ (HS.out _ hY.bel) (fun hHeld=>?_)
     clear hK' K' hX
     have hX:Hid (RgN W0 wn56 (some wn49.heap.size) none (some W0.heap.size)):=hY
     clear hY
     refine wpAnyH_ready (rs:=[13]) (by kernel_rfl) (by simp) ?_
     refine AllReadyH.cons rfl (fun K' hK'=>?_) (AllReadyH.nil)
     ·skip
      have hY:=hX.out.addB (below_new wn56 (.cells #[.slice none 0 0] 238)) (Nat.le_refl _) (heap_alloc_new _ _)
      go_simp
      generalize wn56.alloc (.cells #[.slice none 0 0] 238)=wn57 at hY ⊢
      refine hK'.out _ _ (HS.out _ hY.bel) (fun hHeld=>?_)
      clear hK' K' hX
      have hX:Hid (RgN W0 wn57 (some wn49.heap.size) (some wn56.heap.size) (some W0.heap.size)):=hY
      clear hY
      obtain⟨f1,f2,f3⟩:=RgN.cells hX.out
      obtain⟨p0,p1,p2,p3,pf0,pf1,pf2,pf3,pl⟩:=f1
      obtain⟨q0,qf0,ql⟩:=f2
      obtain⟨r0,rf0,rl⟩:=f3
      have dab:=hX.out.dab _ _ rfl rfl
      have dac:=hX.out.dac _ _ rfl rfl
      have dbc:=hX.out.dbc _ _ rfl rfl
      have hK3:=RgN.three hX.out (.int .i64 mc) (.int .i64 mt) (.int .i64 md) (.int .i64 mj) (.slice (some ⟨ab,ao,none⟩) i c) (.int .i64 (heldF (l.drop (i+1))))
      have HK3:Hid (_∧_∧_):=hK3
      clear hK3
      refine wpAnyH_ready (rs:=[15]) (by kernel_rfl) (by simp) ?_
      refine AllReadyH.cons rfl (fun K' hK'=>?_) AllReadyH.nil
      go_simp
      refine hK'.out _ _ (HS.out _ HK3.out.1) (fun hHeld=>?_)
      clear hK' K'
      refine wpAnyH_ready (rs:=[16]) (by kernel_rfl) (by simp) ?_
      refine AllReadyH.cons rfl (fun K' hK'=>?_) AllReadyH.nil
      go_simp
      refine hK'.out _ _ (HS.out _ HK3.out.2.1) (fun hHeld=>?_)
      clear hK' K'
      refine wpAnyH_ready (rs:=[17]) (by kernel_rfl) (by simp) ?_
      refine AllReadyH.cons rfl (fun K' hK'=>?_) AllReadyH.nil
      go_simp
      refine hK'.out _ _ (HS.out _ HK3.out.2.2.bel) (fun hHeld=>?_)
      clear hK' K'
      refine wpAnyH_done (by kernel_rfl) ?_ _
      refine NoPanic.normal ?_
      go_wp2_with fail
      go_meet
      case rel =>
       exact⟨_,_,_,rfl,rfl,rfl,RgN.fin HK3.out.2.2 HW0.out⟩
    ·skip
     have hY:=hX.out.addB (below_new wn55 (.cells #[.slice none 0 0] 238)) (Nat.le_refl _) (heap_alloc_new _ _)
     go_simp
     generalize wn55.alloc (.cells #[.slice none 0 0] 238)=wn58 at hY ⊢
     refine hK'.out _ _ (HS.out _ hY.bel) (fun hHeld=>?_)
     clear hK' K' hX
     have hX:Hid (RgN W0 wn58 (some wn49.heap.size) (some wn55.heap.size) (some W0.heap.size)):=hY
     clear hY
     refine wpAnyH_ready (rs:=[11]) (by kernel_rfl) (by simp) ?_
     refine AllReadyH.cons rfl (fun K' hK'=>?_) (AllReadyH.nil)
     ·skip
      go_simp
      go_wp2_with (go_at_call 235;refine(holds_any wn58 (l.drop (i+1)) _ HL.out.1 HL.out.2.1 (HL.out.2.2 _ hX.out.bel)).mono ?_;rintro r wn59 ⟨rfl,hb9⟩)
      have hY:=hX.out.grow hb9
      refine hK'.out _ _ (HS.out _ hY.bel) (fun hHeld=>?_)
      clear hK' K' hX
      have hX:Hid (RgN W0 wn59 (some wn49.heap.size) (some wn55.heap.size) (some W0.heap.size)):=hY
      clear hY
      obtain⟨f1,f2,f3⟩:=RgN.cells hX.out
      obtain⟨p0,p1,p2,p3,pf0,pf1,pf2,pf3,pl⟩:=f1
      obtain⟨q0,qf0,ql⟩:=f2
      obtain⟨r0,rf0,rl⟩:=f3
      have dab:=hX.out.dab _ _ rfl rfl
      have dac:=hX.out.dac _ _ rfl rfl
      have dbc:=hX.out.dbc _ _ rfl rfl
      have hK3:=RgN.three hX.out (.int .i64 mc) (.int .i64 mt) (.int .i64 md) (.int .i64 mj) (.slice (some ⟨ab,ao,none⟩) i c) (.int .i64 (heldF (l.drop (i+1))))
      have HK3:Hid (_∧_∧_):=hK3
      clear hK3
      refine wpAnyH_ready (rs:=[15]) (by kernel_rfl) (by simp) ?_
      refine AllReadyH.cons rfl (fun K' hK'=>?_) AllReadyH.nil
      go_simp
      refine hK'.out _ _ (HS.out _ HK3.out.1) (fun hHeld=>?_)
      clear hK' K'
      refine wpAnyH_ready (rs:=[16]) (by kernel_rfl) (by simp) ?_
      refine AllReadyH.cons rfl (fun K' hK'=>?_) AllReadyH.nil
      go_simp
      refine hK'.out _ _ (HS.out _ HK3.out.2.1) (fun hHeld=>?_)
      clear hK' K'
      refine wpAnyH_ready (rs:=[17]) (by kernel_rfl) (by simp) ?_
      refine AllReadyH.cons rfl (fun K' hK'=>?_) AllReadyH.nil
      go_simp
      refine hK'.out _ _ (HS.out _ HK3.out.2.2.bel) (fun hHeld=>?_)
      clear hK' K'
      refine wpAnyH_done (by kernel_rfl) ?_ _
      refine NoPanic.normal ?_
      go_wp2_with fail
      go_meet
      case rel =>
       exact⟨_,_,_,rfl,rfl,rfl,RgN.fin HK3.out.2.2 HW0.out⟩
   ·skip
    have hY:=hX.out.addB (below_new wn49 (.cells #[.slice none 0 0] 238)) (Nat.le_refl _) (heap_alloc_new _ _)
    go_simp
    generalize wn49.alloc (.cells #[.slice none 0 0] 238)=wn60 at hY ⊢
    refine hK'.out _ _ (HS.out _ hY.bel) (fun hHeld=>?_)
    clear hK' K' hX
    have hX:Hid (RgN W0 wn60 none (some wn49.heap.size) (some W0.heap.size)):=hY
    clear hY
    refine wpAnyH_ready (rs:=[11,12]) (by kernel_rfl) (by simp) ?_
    refine AllReadyH.cons rfl (fun K' hK'=>?_) (AllReadyH.cons rfl (fun K' hK'=>?_) (AllReadyH.nil))
    ·skip
     go_simp
     go_wp2_with (go_at_call 235;refine(holds_any wn60 (l.drop (i+1)) _ HL.out.1 HL.out.2.1 (HL.out.2.2 _ hX.out.bel)).mono ?_;rintro r wn61 ⟨rfl,hb9⟩)
     have hY:=hX.out.grow hb9
     refine hK'.out _ _ (HS.out _ hY.bel) (fun hHeld=>?_)
     clear hK' K' hX
     have hX:Hid (RgN W0 wn61 none (some wn49.heap.size) (some W0.heap.size)):=hY
     clear hY
     refine wpAnyH_ready (rs:=[12]) (by kernel_rfl) (by simp) ?_
     refine AllReadyH.cons rfl (fun K' hK'=>?_) (AllReadyH.nil)
     ·skip
      have hY:=hX.out.addA (below_new wn61 (.cells #[.int .i64 0,.int .i64 0,.int .i64 0,.int .i64 0] 240)) (Nat.le_refl _) (heap_alloc_new _ _)
      go_simp
      generalize wn61.alloc (.cells #[.int .i64 0,.int .i64 0,.int .i64 0,.int .i64 0] 240)=wn62 at hY ⊢
      refine hK'.out _ _ (HS.out _ hY.bel) (fun hHeld=>?_)
      clear hK' K' hX
      have hX:Hid (RgN W0 wn62 (some wn61.heap.size) (some wn49.heap.size) (some W0.heap.size)):=hY
      clear hY
      obtain⟨f1,f2,f3⟩:=RgN.cells hX.out
      obtain⟨p0,p1,p2,p3,pf0,pf1,pf2,pf3,pl⟩:=f1
      obtain⟨q0,qf0,ql⟩:=f2
      obtain⟨r0,rf0,rl⟩:=f3
      have dab:=hX.out.dab _ _ rfl rfl
      have dac:=hX.out.dac _ _ rfl rfl
      have dbc:=hX.out.dbc _ _ rfl rfl
      have hK3:=RgN.three hX.out (.int .i64 mc) (.int .i64 mt) (.int .i64 md) (.int .i64 mj) (.slice (some ⟨ab,ao,none⟩) i c) (.int .i64 (heldF (l.drop (i+1))))
      have HK3:Hid (_∧_∧_):=hK3
      clear hK3
      refine wpAnyH_ready (rs:=[15]) (by kernel_rfl) (by simp) ?_
      refine AllReadyH.cons rfl (fun K' hK'=>?_) AllReadyH.nil
      go_simp
      refine hK'.out _ _ (HS.out _ HK3.out.1) (fun hHeld=>?_)
      clear hK' K'
      refine wpAnyH_ready (rs:=[16]) (by kernel_rfl) (by simp) ?_
      refine AllReadyH.cons rfl (fun K' hK'=>?_) AllReadyH.nil
      go_simp
      refine hK'.out _ _ (HS.out _ HK3.out.2.1) (fun hHeld=>?_)
      clear hK' K'
      refine wpAnyH_ready (rs:=[17]) (by kernel_rfl) (by simp) ?_
      refine AllReadyH.cons rfl (fun K' hK'=>?_) AllReadyH.nil
      go_simp
      refine hK'.out _ _ (HS.out _ HK3.out.2.2.bel) (fun hHeld=>?_)
      clear hK' K'
      refine wpAnyH_done (by kernel_rfl) ?_ _
      refine NoPanic.normal ?_
      go_wp2_with fail
      go_meet
      case rel =>
       exact⟨_,_,_,rfl,rfl,rfl,RgN.fin HK3.out.2.2 HW0.out⟩
    ·skip
     have hY:=hX.out.addA (below_new wn60 (.cells #[.int .i64 0,.int .i64 0,.int .i64 0,.int .i64 0] 240)) (Nat.le_refl _) (heap_alloc_new _ _)
     go_simp
     generalize wn60.alloc (.cells #[.int .i64 0,.int .i64 0,.int .i64 0,.int .i64 0] 240)=wn63 at hY ⊢
     refine hK'.out _ _ (HS.out _ hY.bel) (fun hHeld=>?_)
     clear hK' K' hX
     have hX:Hid (RgN W0 wn63 (some wn60.heap.size) (some wn49.heap.size) (some W0.heap.size)):=hY
     clear hY
     refine wpAnyH_ready (rs:=[11]) (by kernel_rfl) (by simp) ?_
     refine AllReadyH.cons rfl (fun K' hK'=>?_) (AllReadyH.nil)
     ·skip
      go_simp
      go_wp2_with (go_at_call 235;refine(holds_any wn63 (l.drop (i+1)) _ HL.out.1 HL.out.2.1 (HL.out.2.2 _ hX.out.bel)).mono ?_;rintro r wn64 ⟨rfl,hb9⟩)
      have hY:=hX.out.grow hb9
      refine hK'.out _ _ (HS.out _ hY.bel) (fun hHeld=>?_)
      clear hK' K' hX
      have hX:Hid (RgN W0 wn64 (some wn60.heap.size) (some wn49.heap.size) (some W0.heap.size)):=hY
      clear hY
      obtain⟨f1,f2,f3⟩:=RgN.cells hX.out
      obtain⟨p0,p1,p2,p3,pf0,pf1,pf2,pf3,pl⟩:=f1
      obtain⟨q0,qf0,ql⟩:=f2
      obtain⟨r0,rf0,rl⟩:=f3
      have dab:=hX.out.dab _ _ rfl rfl
      have dac:=hX.out.dac _ _ rfl rfl
      have dbc:=hX.out.dbc _ _ rfl rfl
      have hK3:=RgN.three hX.out (.int .i64 mc) (.int .i64 mt) (.int .i64 md) (.int .i64 mj) (.slice (some ⟨ab,ao,none⟩) i c) (.int .i64 (heldF (l.drop (i+1))))
      have HK3:Hid (_∧_∧_):=hK3
      clear hK3
      refine wpAnyH_ready (rs:=[15]) (by kernel_rfl) (by simp) ?_
      refine AllReadyH.cons rfl (fun K' hK'=>?_) AllReadyH.nil
      go_simp
      refine hK'.out _ _ (HS.out _ HK3.out.1) (fun hHeld=>?_)
      clear hK' K'
      refine wpAnyH_ready (rs:=[16]) (by kernel_rfl) (by simp) ?_
      refine AllReadyH.cons rfl (fun K' hK'=>?_) AllReadyH.nil
      go_simp
      refine hK'.out _ _ (HS.out _ HK3.out.2.1) (fun hHeld=>?_)
      clear hK' K'
      refine wpAnyH_ready (rs:=[17]) (by kernel_rfl) (by simp) ?_
      refine AllReadyH.cons rfl (fun K' hK'=>?_) AllReadyH.nil
      go_simp
      refine hK'.out _ _ (HS.out _ HK3.out.2.2.bel) (fun hHeld=>?_)
      clear hK' K'
      refine wpAnyH_done (by kernel_rfl) ?_ _
      refine NoPanic.normal ?_
      go_wp2_with fail
      go_meet
      case rel =>
       exact⟨_,_,_,rfl,rfl,rfl,RgN.fin HK3.out.2.2 HW0.out⟩
 case rest =>
  obtain⟨a,b,d,rfl,rfl,rfl,hW⟩:=hcut
  have hok:=HM.out.2.1
  have hmk:=hok m (List.mem_of_getElem? HM2.out)
  have hdk:∀x∈l.take i,okFr x:=take_ok hok
  have hd8:(l.take i).length≤8:=by rw[List.length_take];omega
  have hh0:=heldF_nonneg (l.drop (i+1))
  have hh1:=heldF_small (l:=l.drop (i+1)) (fun x hx=>(drop_ok hok x hx).2.1)
  obtain⟨h,hhe⟩:∃h,h=heldF (l.drop (i+1)):=⟨_,rfl⟩
  have HH:Hid (h=heldF (l.drop (i+1))):=hhe
  rw[← hhe]at hh0 hh1 hW
  clear hhe
  have HW:Hid (WstW w wc l (.slice (some ⟨ab,ao,none⟩) l.length c) (.slice (some ⟨ab,ao,none⟩) i c) i m h a b d):=hW
  have HO:Hid ((∀x∈l,okFr x)∧okFr m∧(∀x∈l.take i,okFr x)∧(l.take i).length≤8∧0≤h∧h≤9999):=⟨hok,hmk,hdk,hd8,hh0,hh1⟩
  obtain⟨x1,hx1⟩:=Fx.ex (busyAsk h (l.take i) m) 1
  have HX1:Hid (Fx (busyAsk h (l.take i) m) 1 x1):=hx1
  have hbl:=busyAsk_low (b:=h) (v:=1) hdk hmk (by omega)
  have HSE:Hid (Calls Tryz.prog 236 #[.int .i64 1,.func (Fn.func 237) #[] #[.pointer (some ⟨d,0,none⟩),.pointer (some ⟨w.heap.size,0,none⟩),.pointer (some ⟨w.heap.size+1,0,none⟩)]] wc fun r w'=>r = .returned (.tuple #[.int .i64 (x1.getD 0),.bool x1.isSome])∧Below wc.heap.size wc w'):=by
   have hc1:1≤m.c:=hmk.1
   refine(settleU_any wc d w.heap.size (w.heap.size+1) (busyAsk h (l.take i) m) 1 (fun W hWb y hy0 hy1=>?_) (busyAsk_mo hdk hmk) (by omega) (by omega) (by omega) (fun y hy0 hy1=>busyAsk_big hdk hd8 hmk hh1 (by omega) hy1)).mono ?_
   ·have g:=hW.grow hWb
    exact w1_any W l _ m d w.heap.size (w.heap.size+1) i h y hl8 hok HM2.out ⟨hh0,hh1⟩ ⟨hy0,hy1⟩ (HM.out.2.2.1.below g.bel) ((cells_of (l:=[_]) g.hc).1 0 _ rfl) ((cells_of (l:=[_]) g.lb).1 0 _ rfl) ((cells_of (l:=[_]) g.ib).1 0 _ rfl)
   ·rintro r w' ⟨x,hx,rfl,hb'⟩
    have e:=hx.one HX1.out
    subst e
    exact⟨rfl,hb'⟩
  clear hok hmk hdk hd8 hW hx1 hbl
  cases x1 with
  | none =>
   have HSE2:=HSE.out
   simp only[Option.getD,Option.isSome]at HSE2
   clear HSE
   go_wp2_with (go_at_call 236;refine HSE2.mono ?_;rintro r w2 ⟨rfl,hb2⟩;have H2:Hid (Below w.heap.size w w2):=below_seq HW.out.bel hb2;clear hb2 HSE2)
   refine bodyPost_ret (worstN_ends rfl rfl) rfl ?_
   exact⟨none,.none (by rw[← HH.out];exact HX1.out),rfl,H2.out⟩
  | some busy =>
   have HSE2:=HSE.out
   simp only[Option.getD,Option.isSome]at HSE2
   clear HSE
   have hbz0:1≤busy:=HX1.out.1
   have hbz1:busy≤100000:=HX1.out.2.1
   have hkr:=kinds_range (busy:=busy) HO.out.2.1 (by omega) hbz1
   obtain⟨mc,mt,md,mj⟩:=m
   obtain⟨g1,g2,g3,g4,g5,g6,g7,g8⟩:=id HO.out.2.1
   dsimp only at g1 g2 g3 g4 g5 g6 g7 g8
   obtain⟨K,hK⟩:∃K:Nat,kinds ⟨mc,mt,md,mj⟩ busy=(K:Int):=⟨(kinds ⟨mc,mt,md,mj⟩ busy).toNat,by omega⟩
   have HK:Hid (kinds ⟨mc,mt,md,mj⟩ busy=(K:Int)):=hK
   rw[hK]at hkr
   have hK3:K≤130000:=by omega
   clear hkr
   have hrup:=fun W=>roundUp_any W (busy+mj) mt (by omega) (by omega) (by omega) (by omega)
   have hk2:(busy+mj+mt-1) / mt=(K:Int):=hK
   rw[hk2]at hrup
   clear hk2 hK
   have e1:IntKind.i64.wrap (busy+mj)=busy+mj:=by rw[IntKind.wrap_i64];omega
   go_upto_region 5 with (go_at_call 236;refine HSE2.mono ?_;rintro r w2 ⟨rfl,hb2⟩;have H2:Hid (WstW w w2 l (.slice (some ⟨ab,ao,none⟩) l.length c) (.slice (some ⟨ab,ao,none⟩) i c) i ⟨mc,mt,md,mj⟩ h a b d):=HW.out.grow hb2;clear hb2 HSE2)
   obtain⟨as_,af_,al_⟩:=cells_of (l:=[_,_,_,_]) H2.out.ha;have m0:=as_ 0 _ rfl;have m1:=as_ 1 _ rfl;have m3:=as_ 3 _ rfl;obtain⟨cs_,cf_,cl_⟩:=cells_of (l:=[_]) H2.out.hc;have h0:=cs_ 0 _ rfl;clear as_ af_ cs_ cf_
   go_quiet (fail)
   have H3:Hid (WstW w (w2.drewN nq) l (.slice (some ⟨ab,ao,none⟩) l.length c) (.slice (some ⟨ab,ao,none⟩) i c) i ⟨mc,mt,md,mj⟩ h a b d):=H2.out.grow below_drewN'
   have e0:(w2.drewN nq).cell? ⟨a,3,none⟩=some (.int .i64 mj):=m3
   have e01:(w2.drewN nq).cell? ⟨a,1,none⟩=some (.int .i64 mt):=m1
   clear m0 m1 m3 h0 H2
   generalize w2.drewN nq=w3 at *
   go_wp2_with (go_at_call 240;refine(hrup _).mono ?_;rintro r w4 ⟨rfl,hw4⟩;have hw5:=hw4.symm;subst hw5)
   go_loopw [11,12,41] (fun mv bv i4 wr=>∃(q:Nat) (v bg:Int),q≤K∧i4 = .int .i64 q∧mv = .int .i64 v∧bv = .int .i64 bg∧WstW w wr l (.slice (some ⟨ab,ao,none⟩) l.length c) (.slice (some ⟨ab,ao,none⟩) i c) i ⟨mc,mt,md,mj⟩ h a b d∧Tm h (l.take i) ⟨mc,mt,md,mj⟩ q (some v)∧BgAt h (l.take i) ⟨mc,mt,md,mj⟩ q bg) (fun _ _ i4 _=>K-(intOf i4).toNat)
   case atStart=>exact⟨0,0,h,Nat.zero_le _,rfl,rfl,rfl,H3.out,.zero,.inl ⟨rfl,rfl⟩⟩
   case round =>
    obtain⟨q,v,bg,hq,rfl,rfl,rfl,hw,htm,hbg⟩:=hrel
    by_cases hqk:q<K
    ·have hst:=hbg.start HO.out.2.2.1 HO.out.2.1 hh0 hh1
     have hv:=htm.small HO.out.2.1
     obtain⟨xq,hxq⟩:=Fx.ex (qAsk h (l.take i) ⟨mc,mt,md,mj⟩ (q:Int)) bg
     have HT:Hid (Tm h (l.take i) ⟨mc,mt,md,mj⟩ q (some v)∧Fx (qAsk h (l.take i) ⟨mc,mt,md,mj⟩ (q:Int)) 0 xq):=⟨htm,hbg.whole HO.out.2.2.1 HO.out.2.1 hh0 hxq⟩
     have HSQ:Hid (Calls Tryz.prog 236 #[.int .i64 bg,.func (Fn.func 241) #[] #[.pointer (some ⟨d,0,none⟩),.pointer (some ⟨wr.heap.size,0,none⟩),.pointer (some ⟨a,0,none⟩),.pointer (some ⟨b,0,none⟩)]] (wr.alloc (.cells #[.int .i64 (q:Int)] 3)) fun r w'=>r = .returned (.tuple #[.int .i64 (xq.getD 0),.bool xq.isSome])∧Below (wr.alloc (.cells #[.int .i64 (q:Int)] 3)).heap.size (wr.alloc (.cells #[.int .i64 (q:Int)] 3)) w'):=by
      refine(settleQ_any (wr.alloc (.cells #[.int .i64 (q:Int)] 3)) d wr.heap.size a b (qAsk h (l.take i) ⟨mc,mt,md,mj⟩ (q:Int)) bg (fun W hWb y hy0 hy1=>?_) ((qAsk_mo HO.out.2.2.1).up hst.1) hst.1 (by omega) hst.2.2 (fun y hy0 hy1=>qAsk_big HO.out.2.2.1 HO.out.2.2.2.1 HO.out.2.1 hh1 (by omega) (by omega) hy1)).mono ?_
      ·have g:=(hw.grow (below_new _ _)).grow hWb
       exact w2_any W (l.take i) _ ⟨mc,mt,md,mj⟩ d wr.heap.size a b h y q HO.out.2.2.2.1 HO.out.2.2.1 HO.out.2.1 ⟨hh0,hh1⟩ (by omega) ⟨hy0,hy1⟩ ((HM.out.2.2.1.below g.bel).take i (by have:=HM.out.1;omega)) ((cells_of (l:=[_]) g.hc).1 0 _ rfl) (below_cell hWb ((cells_of (l:=[_]) (heap_alloc_new _ _)).1 0 _ rfl)) ((cells_of (l:=[_,_,_,_]) g.ha).1 0 _ rfl) ((cells_of (l:=[_]) g.hb).1 0 _ rfl)
      ·rintro r w' ⟨x,hx,rfl,hb'⟩
       have e:=hx.one hxq
       subst e
       exact⟨rfl,hb'⟩
     have HWR:Hid (WstW w wr l (.slice (some ⟨ab,ao,none⟩) l.length c) (.slice (some ⟨ab,ao,none⟩) i c) i ⟨mc,mt,md,mj⟩ h a b d):=hw
     have hqm0:0≤(q:Int)*mt:=Int.mul_nonneg (by omega) (by omega)
     have hqm1:(q:Int)*mt≤2000000000:=by
      have:=Int.mul_le_mul (show(q:Int)≤130000 by omega) g4 (by omega) (by omega)
      omega
     have hqi:(q:Int)<(K:Int):=by omega
     clear hw htm hbg hxq
     cases xq with
     | none =>
      have HSQ2:=HSQ.out
      simp only[Option.getD,Option.isSome]at HSQ2
      clear HSQ
      go_wp2_with (go_at_call 236;refine HSQ2.mono ?_;rintro r w5 ⟨rfl,hb5⟩;have H5:Hid (Below w.heap.size w w5):=below_seq (below_seq HWR.out.bel (below_new _ _)) hb5;clear hb5 HSQ2)
      refine bodyPost_ret (worstN_ends rfl rfl) rfl ?_
      refine⟨none,.some (by rw[← HH.out];exact HX1.out) ?_,rfl,H5.out⟩
      rw[HK.out,Int.toNat_natCast,← HH.out]
      have:=(Tm.stop HT.out.1 HT.out.2).gone_to (K-(q+1))
      rwa[show q+1+(K-(q+1))=K by omega]at this
     | some wq =>
      have HSQ2:=HSQ.out
      simp only[Option.getD,Option.isSome]at HSQ2
      clear HSQ
      have hw0:0≤wq:=HT.out.2.1
      have hw1:wq≤100000:=HT.out.2.2.1
      have f1:IntKind.i64.wrap (mj+wq)=mj+wq:=by rw[IntKind.wrap_i64];omega
      have f2:IntKind.i64.wrap ((q:Int)*mt)=(q:Int)*mt:=by rw[IntKind.wrap_i64];omega
      have f3:IntKind.i64.wrap (mj+wq-(q:Int)*mt)=mj+wq-(q:Int)*mt:=by rw[IntKind.wrap_i64];omega
      have f4:IntKind.i64.wrap (mj+wq-(q:Int)*mt+mc)=mj+wq-(q:Int)*mt+mc:=by rw[IntKind.wrap_i64];omega
      clear hqm0 hqm1
      go_wp2_with (go_at_call 236;refine HSQ2.mono ?_;rintro r w5 ⟨rfl,hb5⟩;have H5:Hid (WstW w w5 l (.slice (some ⟨ab,ao,none⟩) l.length c) (.slice (some ⟨ab,ao,none⟩) i c) i ⟨mc,mt,md,mj⟩ h a b d):=(HWR.out.grow (below_new _ _)).grow hb5;have k5:w5.cell? ⟨wr.heap.size,0,none⟩=some (.int .i64 (q:Int)):=below_cell hb5 ((cells_of (l:=[_]) (heap_alloc_new _ _)).1 0 _ rfl);obtain⟨as_,af_,al_⟩:=cells_of (l:=[_,_,_,_]) H5.out.ha;have m0:=as_ 0 _ rfl;have m1:=as_ 1 _ rfl;have m3:=as_ 3 _ rfl;obtain⟨cs_,cf_,cl_⟩:=cells_of (l:=[_]) H5.out.hc;have h0:=cs_ 0 _ rfl;clear as_ af_ cs_ cf_;clear hb5 HSQ2)
      exact⟨⟨q+1,max v (mj+wq-(q:Int)*mt+mc),wq,by omega,by simp,(by congr 1;split<;>omega),rfl,H5.out,.next HT.out.1 HT.out.2,.inr ⟨q,rfl,HT.out.2⟩⟩,by simp[intOf];omega⟩
    ·have hqe:q=K:=by omega
     subst hqe
     have HT:Hid (Tm h (l.take i) ⟨mc,mt,md,mj⟩ q (some v)):=htm
     have HWR:Hid (Below w.heap.size w wr):=hw.bel
     clear hw htm hbg
     go_wp2_with fail
     refine bodyPost_ret (worstN_ends rfl rfl) rfl ?_
     refine⟨some v,.some (by rw[← HH.out];exact HX1.out) ?_,rfl,HWR.out⟩
     rw[HK.out,Int.toNat_natCast,← HH.out]
     exact HT.out
end Go.Proofs.YtccoobcggbbcialGreatDoor
