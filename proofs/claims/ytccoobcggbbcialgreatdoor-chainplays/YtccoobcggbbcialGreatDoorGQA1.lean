import Derived.Test.YtccoobcggbbcialGreatDoorGKC1
import Derived.Test.YtccoobcggbbcialGreatDoorGHV3
namespace Go.Proofs.YtccoobcggbbcialGreatDoor
open Go.ChangeShapes Go.WideShapes Go.ChangeAt Go.RowKit
namespace Keep
def rtG(l:List Pa):Nat→Nat→Nat
 | 0,k=>k
 | f+1,k=>if fr l k=-1 then k else rtG l f (fr l k).toNat
def rt(l:List Pa)(k:Nat):Nat:=rtG l k k
theorem fr_at{l:List Pa}(hok:PsOk l){k:Nat}(hk:k<l.length):(fr l k=-1∧se l k=0)∨∃f:Nat,fr l k=f∧f<k∧(l.getD k paZ).t=(l.getD f paZ).t:=by
 rcases(hok.at_ k _ (some_getD (d:=paZ) hk)).fr with h|⟨h1,h2,y,h3,h4⟩
 ·exact .inl h
 ·refine .inr ⟨(fr l k).toNat,by unfold fr;omega,by unfold fr;omega,?_⟩
  rw[h4]
  unfold fr
  rw[List.getD_eq_getElem?_getD,List.getD_eq_getElem?_getD]at *
  rw[h3];rfl
theorem rtG_same{l:List Pa}(hok:PsOk l):∀(f g k:Nat),k<l.length→k≤f→k≤g→rtG l f k=rtG l g k
 | 0,g,k,hk,hf,_=>by
  have:k=0:=by omega
  subst this
  rcases fr_at hok hk with ⟨h,-⟩|⟨f,-,h,-⟩
  ·cases g with
   | zero=>rfl
   | succ g=>unfold rtG;rw[if_pos h]
  ·omega
 | f+1,0,k,hk,_,hg=>by
  have:k=0:=by omega
  subst this
  rcases fr_at hok hk with ⟨h,-⟩|⟨f,-,h,-⟩
  ·unfold rtG;rw[if_pos h]
  ·omega
 | f+1,g+1,k,hk,hf,hg=>by
  unfold rtG
  by_cases h:fr l k=-1
  ·rw[if_pos h,if_pos h]
  ·rw[if_neg h,if_neg h]
   rcases fr_at hok hk with ⟨h',-⟩|⟨e,h1,h2,-⟩
   ·exact absurd h' h
   ·rw[h1,Int.toNat_natCast]
    exact rtG_same hok f g e (by omega) (by omega) (by omega)
theorem rt_self{l:List Pa}{k:Nat}(h:fr l k=-1):rt l k=k:=by
 unfold rt
 cases k with
 | zero=>rfl
 | succ k=>unfold rtG;rw[if_pos h]
theorem rt_up{l:List Pa}(hok:PsOk l){k f:Nat}(hk:k<l.length)(h:fr l k=(f:Int)):rt l k=rt l f:=by
 rcases fr_at hok hk with ⟨h',-⟩|⟨e,h1,h2,-⟩
 ·omega
 ·have:e=f:=by omega
  subst this
  unfold rt
  cases k with
  | zero=>omega
  | succ k =>
   show(if fr l (k+1)=-1 then k+1 else rtG l k (fr l (k+1)).toNat)=_
   rw[if_neg (by omega),h1,Int.toNat_natCast]
   exact rtG_same hok k e e (by omega) (by omega) (Nat.le_refl _)
def Real(l:List Pa)(cs:List Co)(n k:Nat):Prop:=n<cs.length∧k<l.length∧rt l k=(cs.getD n ⟨0,0⟩).k.toNat
instance (l:List Pa) (cs:List Co) (n k:Nat):Decidable (Real l cs n k):=inferInstanceAs (Decidable (_∧_∧_))
theorem Real.up{l:List Pa}{cs:List Co}{n k f:Nat}(hok:PsOk l)(hk:k<l.length)(h:fr l k=(f:Int))(hr:Real l cs n f):Real l cs n k:=⟨hr.1,hk,(rt_up hok hk h).trans hr.2.2⟩
def fnd(q:List Pc)(n:Nat):Option Pc:=q.find? (fun p=>decide (p.cm=(n:Int)))
theorem fnd_none{q:List Pc}{n:Nat}:fnd q n=none↔∀p∈q,p.cm≠(n:Int):=by
 unfold fnd
 rw[List.find?_eq_none]
 simp
theorem fnd_some{q:List Pc}{n:Nat}{p:Pc}(h:fnd q n=some p):p∈q∧p.cm=(n:Int):=by
 unfold fnd at h
 exact⟨List.mem_of_find?_eq_some h,by simpa using List.find?_some h⟩
theorem fnd_app(q r:List Pc)(n:Nat):fnd (q++r) n=(fnd q n).or (fnd r n):=by unfold fnd;exact List.find?_append
theorem fnd_hit{p:Pc}{q:List Pc}{n:Nat}(h:p.cm=(n:Int)):fnd (p::q) n=some p:=by unfold fnd;rw[List.find?_cons_of_pos (by simpa using h)]
theorem fnd_miss{p:Pc}{q:List Pc}{n:Nat}(h:p.cm≠(n:Int)):fnd (p::q) n=fnd q n:=by unfold fnd;rw[List.find?_cons_of_neg (by simpa using h)]
theorem fnd_isSome{q:List Pc}{p:Pc}{n:Nat}(hp:p∈q)(h:p.cm=(n:Int)):(fnd q n).isSome=true:=by
 cases e:fnd q n with
 | some x=>rfl
 | none=>exact absurd h (fnd_none.1 e p hp)
theorem fnd_if{c:Prop}[Decidable c]{x:Pc}{n:Nat}:fnd (if c then [x] else []) n=if c∧x.cm=(n:Int) then some x else none:=by
 by_cases h:c
 ·rw[if_pos h]
  by_cases g:x.cm=(n:Int)
  ·rw[if_pos ⟨h,g⟩];exact fnd_hit g
  ·rw[if_neg (fun h'=>g h'.2)];exact fnd_miss g
 ·rw[if_neg h,if_neg (fun h'=>h h'.1)];rfl
def rlJ(s:Sc)(k n:Nat):Bool:=(fnd (J s k) n).isSome || decide (En s n k≠-1)
def rlM(s:Sc)(k n:Nat):Bool:=(fnd (M s k) n).isSome || rlJ s k n
def lfJ(l:List Pa)(tk:List Int)(s:Sc)(k n:Nat):Int:=match fnd (J s k) n with
 | some p=>p.lf
 | none=>if En s n k=-1 then wkF l tk k n else 0
structure Iv (l:List Pa) (tk:List Int) (cs:List Co) (Cm:Nat→Prop) (T:Int) (s:Sc):Prop where
 lj:s.jobs.length=l.length
 lm:s.mail.length=l.length
 le:s.ends.length=cs.length
 er:∀n,n<cs.length→(s.ends.getD n []).length=l.length
 ev:∀n k,En s n k=-1∨(0≤En s n k∧En s n k≤T)
 j:∀k,k<l.length→∀p∈J s k,∃n:Nat,p.cm=n∧En s n k=-1∧1≤p.lf∧p.lf≤wkF l tk k n
 jd:∀k,k<l.length→(J s k).Pairwise (fun a b=>a.cm≠b.cm)
 m:∀k,k<l.length→∀p∈M s k,∃n f:Nat,p.cm=n∧fnd (J s k) n=none∧En s n k=-1∧1≤p.lf∧p.lf≤se l k∧p.si≤T∧fr l k=f∧En s n f≠-1
 md:∀k,k<l.length→(M s k).Pairwise (fun a b=>a.cm≠b.cm∧a.si<b.si)
 rl:∀k n,k<l.length→rlJ s k n=true→Real l cs n k∧(fr l k=-1→Cm n)∧(∀f:Nat,fr l k=f→En s n f≠-1)
 pr1:∀k n,Real l cs n k→fr l k=-1→Cm n→rlJ s k n=true
 pr2:∀k n (f:Nat),Real l cs n k→fr l k=f→En s n f≠-1→se l k=0→rlJ s k n=true
 pr3:∀k n (f:Nat),Real l cs n k→fr l k=f→En s n f≠-1→se l k≠0→rlM s k n=true
 un:s.un=-1∨∃u:Nat,s.un=u∧u<l.length∧M s u≠[]
structure Tc (l:List Pa) (tk:List Int) (cs:List Co) (Cm:Nat→Prop) (now:Int) (F:Nat→Bool) (z:Int) (s s':Sc):Prop where
 ok:PsOk l
 iv:Iv l tk cs Cm now s
 tr:TkR l tk now F z s s'
 now0:0≤now
 hF:∀k,F k=true→k<l.length∧J s k≠[]
 hz:z=-1∨∃u:Nat,z=u∧u<l.length∧M s u≠[]
section
variable {l:List Pa} {tk:List Int} {cs:List Co} {Cm:Nat→Prop} {now:Int} {F:Nat→Bool} {z:Int} {s s':Sc}
theorem rlJ_no{k n:Nat}:rlJ s k n=false↔fnd (J s k) n=none∧En s n k=-1:=by
 unfold rlJ
 rw[Bool.or_eq_false_iff,decide_eq_false_iff_not,Option.isSome_eq_false_iff,Option.isNone_iff_eq_none]
 simp
theorem Iv.head(h:Iv l tk cs Cm now s){k:Nat}(hk:k<l.length)(hne:J s k≠[]):∃(n:Nat) (p:Pc) (r:List Pc),J s k=p::r∧p.cm=n∧runC (J s k)=n∧En s n k=-1∧1≤p.lf∧p.lf≤wkF l tk k n∧(∀x∈r,x.cm≠(n:Int))∧(runD (J s k)=true↔p.lf=1)∧fnd (J s k) n=some p:=by
 have h1:=h.j k hk
 have h2:=h.jd k hk
 generalize J s k=q at *
 cases q with
 | nil=>exact absurd rfl hne
 | cons p r =>
  obtain⟨n,g1,g2,g3,g4⟩:=h1 p List.mem_cons_self
  refine⟨n,p,r,rfl,g1,by show p.cm.toNat=n;omega,g2,g3,g4,fun x hx e=>(List.pairwise_cons.1 h2).1 x hx (by rw[e,g1]),?_,fnd_hit g1⟩
  show(!decide (0<p.lf-1))=true↔_
  by_cases e:0<p.lf-1
  ·rw[decide_eq_true e];simp;omega
  ·rw[decide_eq_false e];simp;omega
theorem Iv.headM(h:Iv l tk cs Cm now s){k:Nat}(hk:k<l.length)(hne:M s k≠[]):∃(n f:Nat) (p:Pc) (r:List Pc),M s k=p::r∧p.cm=n∧runC (M s k)=n∧fnd (J s k) n=none∧En s n k=-1∧1≤p.lf∧p.lf≤se l k∧(∀x∈r,x.cm≠(n:Int)∧p.si<x.si)∧(runD (M s k)=true↔p.lf=1)∧fnd (M s k) n=some p∧fr l k=f∧En s n f≠-1:=by
 have h1:=h.m k hk
 have h2:=h.md k hk
 generalize M s k=q at *
 cases q with
 | nil=>exact absurd rfl hne
 | cons p r =>
  obtain⟨n,f,g1,g2,g3,g4,g5,g6,g7,g8⟩:=h1 p List.mem_cons_self
  refine⟨n,f,p,r,rfl,g1,by show p.cm.toNat=n;omega,g2,g3,g4,g5,fun x hx=>⟨fun e=>((List.pairwise_cons.1 h2).1 x hx).1 (by rw[e,g1]),((List.pairwise_cons.1 h2).1 x hx).2⟩,?_,fnd_hit g1,g7,g8⟩
  show(!decide (0<p.lf-1))=true↔_
  by_cases e:0<p.lf-1
  ·rw[decide_eq_true e];simp;omega
  ·rw[decide_eq_false e];simp;omega
def nwJ(l:List Pa)(F:Nat→Bool)(z:Int)(s:Sc)(k n:Nat):Prop:=(fr l k≠-1∧se l k=0∧rD s F (fr l k).toNat=true∧n=runC (J s (fr l k).toNat))∨(z=(k:Int)∧runD (M s k)=true∧n=runC (M s k))
instance (k n:Nat):Decidable (nwJ l F z s k n):=inferInstanceAs (Decidable (_∨_))
def nwM(l:List Pa)(F:Nat→Bool)(s:Sc)(k n:Nat):Prop:=fr l k≠-1∧se l k≠0∧rD s F (fr l k).toNat=true∧n=runC (J s (fr l k).toNat)
instance (k n:Nat):Decidable (nwM l F s k n):=inferInstanceAs (Decidable (_∧_))
theorem Tc.isD(h:Tc l tk cs Cm now F z s s'){f:Nat}(hd:rD s F f=true):f<l.length∧F f=true∧∃(n:Nat) (p:Pc),runC (J s f)=n∧fnd (J s f) n=some p∧p.lf=1∧En s n f=-1∧En s' n f≠-1:=by
 have hd0:=hd
 unfold rD at hd
 rw[Bool.and_eq_true]at hd
 obtain⟨h1,h2⟩:=h.hF f hd.1
 obtain⟨n,p,r,-,-,g3,g4,-,-,-,g7,g8⟩:=h.iv.head h1 h2
 refine⟨h1,hd.1,n,p,g3,g8,g7.1 hd.2,g4,?_⟩
 rw[h.tr.e n f h1,if_pos ⟨hd0,g3.symm⟩]
 have:=h.now0
 omega
theorem Tc.from(h:Tc l tk cs Cm now F z s s'){k:Nat}(hk:k<l.length)(h1:fr l k≠-1):∃f:Nat,fr l k=f∧(fr l k).toNat=f∧f<k:=by
 rcases fr_at h.ok hk with ⟨e,-⟩|⟨f,e1,e2,-⟩
 ·exact absurd e h1
 ·exact⟨f,e1,by omega,e2⟩
theorem Tc.hang(h:Tc l tk cs Cm now F z s s'){k n:Nat}(hk:k<l.length)(h1:fr l k≠-1)(hd:rD s F (fr l k).toNat=true)(hn:n=runC (J s (fr l k).toNat)):rlJ s k n=false∧(fnd (M s k) n=none)∧Real l cs n k∧∀f:Nat,fr l k=f→En s' n f≠-1:=by
 obtain⟨f,e1,e2,e3⟩:=h.from hk h1
 rw[e2]at hd hn
 obtain⟨g1,g2,n',p,g3,g4,g5,g6,g7⟩:=h.isD hd
 have:n=n':=by rw[hn,g3]
 subst this
 have hno:rlJ s k n=false:=by
  rw[← Bool.not_eq_true]
  intro hr
  exact(h.iv.rl k n hk hr).2.2 f e1 g6
 refine⟨hno,?_,?_,fun f' hf'=>?_⟩
 ·rw[fnd_none]
  intro x hx ex
  obtain⟨n2,f2,k1,-,-,-,-,-,k7,k8⟩:=h.iv.m k hk x hx
  have:n2=n:=by omega
  subst this
  have:f2=f:=by omega
  subst this
  exact k8 g6
 ·have:=(h.iv.rl f n g1 (by unfold rlJ;rw[g4];rfl)).1
  exact this.up h.ok hk e1
 ·have:f'=f:=by omega
  subst this
  exact g7
theorem Tc.isNew(h:Tc l tk cs Cm now F z s s'){k n:Nat}(hk:k<l.length)(hn:nwJ l F z s k n):rlJ s k n=false∧Real l cs n k∧∃f:Nat,fr l k=f∧En s' n f≠-1:=by
 rcases hn with ⟨h1,-,h3,h4⟩|⟨h1,h2,h3⟩
 ·obtain⟨g1,-,g3,g4⟩:=h.hang hk h1 h3 h4
  obtain⟨f,e1,-,-⟩:=h.from hk h1
  exact⟨g1,g3,f,e1,g4 f e1⟩
 ·rcases h.hz with e|⟨u,e,hu,hne⟩
  ·omega
  ·have:u=k:=by omega
   subst this
   obtain⟨n',f,p,r,k1,k2,k3,k4,k5,k6,k7,-,k9,k10,k11,k12⟩:=h.iv.headM hu hne
   have:n=n':=by omega
   subst this
   have hf:f<l.length:=by
    obtain⟨f',q1,-,q3⟩:=h.from hk (by omega)
    omega
   have hrf:=(h.iv.rl f n hf (by unfold rlJ;rw[decide_eq_true k12];simp)).1
   refine⟨rlJ_no.2 ⟨k4,k5⟩,hrf.up h.ok hk k11,f,k11,?_⟩
   rw[h.tr.e n f hf]
   split
   ·have:=h.now0;omega
   ·exact k12
theorem fnd_runQ{p:Pc}{r:List Pc}{n0 n:Nat}(h1:p.cm=(n0:Int))(h2:∀x∈r,x.cm≠(n0:Int)):fnd (runQ (p::r)) n=if n=n0 then (if p.lf=1∨p.lf≤0 then none else some { p with lf:=p.lf-1 }) else fnd (p::r) n:=by
 by_cases hl:0<p.lf-1
 ·rw[show runQ (p::r)={ p with lf:=p.lf-1 }::r from if_pos hl]
  by_cases e:n=n0
  ·subst e
   rw[if_pos rfl,if_neg (by omega)]
   exact fnd_hit h1
  ·rw[if_neg e,fnd_miss (show p.cm≠(n:Int) by omega)]
   exact fnd_miss (show p.cm≠(n:Int) by omega)
 ·rw[show runQ (p::r)=r from if_neg hl]
  by_cases e:n=n0
  ·subst e
   rw[if_pos rfl,if_pos (by omega)]
   exact fnd_none.2 h2
  ·rw[if_neg e,fnd_miss (show p.cm≠(n:Int) by omega)]
theorem Tc.fndJ(h:Tc l tk cs Cm now F z s s'){k:Nat}(hk:k<l.length)(n:Nat):fnd (J s' k) n=(if F k=true∧n=runC (J s k) then (if rD s F k=true then none else (fnd (J s k) n).map (fun p=>{ p with lf:=p.lf-1 })) else fnd (J s k) n).or (if nwJ l F z s k n then some ⟨n,now+1,wkF l tk k n⟩ else none):=by
 rw[h.tr.j k hk,fnd_app,fnd_app,fnd_if,fnd_if,Option.or_assoc]
 congr 1
 ·by_cases hF:F k=true
  ·obtain⟨-,hne⟩:=h.hF k hF
   obtain⟨n0,p,r,g1,g2,g3,g4,g5,g6,g7,g8,g9⟩:=h.iv.head hk hne
   rw[if_pos hF]
   have hrD:rD s F k=true↔p.lf=1:=by unfold rD;rw[hF,Bool.true_and];exact g8
   rw[g3]
   by_cases e:n=n0
   ·subst e
    rw[if_pos ⟨hF,rfl⟩,g9,g1,fnd_runQ g2 g7,if_pos rfl]
    by_cases hd:p.lf=1
    ·rw[if_pos (.inl hd),if_pos (hrD.2 hd)]
    ·rw[if_neg (by omega),if_neg (fun h=>hd (hrD.1 h))];rfl
   ·rw[if_neg (fun h=>e h.2),g1,fnd_runQ g2 g7,if_neg e]
  ·rw[if_neg hF,if_neg (fun h=>hF h.1)]
 ·by_cases hn:nwJ l F z s k n
  ·rw[if_pos hn]
   rcases hn with ⟨h1,h2,h3,h4⟩|⟨h1,h2,h3⟩
   ·rw[if_pos ⟨⟨h1,h2,h3⟩,by dsimp only;omega⟩,← h4];rfl
   ·rw[if_pos (c:=(z=(k:Int)∧runD (M s k)=true)∧_) ⟨⟨h1,h2⟩,by dsimp only;omega⟩,← h3]
    rw[if_neg]
    ·rfl
    ·rintro⟨⟨a1,a2,-⟩,-⟩
     rcases h.hz with e|⟨u,e,hu,hne⟩
     ·omega
     ·have:u=k:=by omega
      subst this
      obtain⟨-,-,p,-,-,-,-,-,-,b6,b7,-⟩:=h.iv.headM hu hne
      omega
  ·rw[if_neg hn,if_neg (fun g=>hn (.inl ⟨g.1.1,g.1.2.1,g.1.2.2,by have:=g.2;dsimp only at this;omega⟩)),if_neg (fun g=>hn (.inr ⟨g.1.1,g.1.2,by have:=g.2;dsimp only at this;omega⟩))]
   rfl
theorem Tc.fndM(h:Tc l tk cs Cm now F z s s'){k:Nat}(hk:k<l.length)(n:Nat):fnd (M s' k) n=(if z=(k:Int)∧n=runC (M s k) then (if runD (M s k)=true then none else (fnd (M s k) n).map (fun p=>{ p with lf:=p.lf-1 })) else fnd (M s k) n).or (if nwM l F s k n then some ⟨n,now+1,se l k⟩ else none):=by
 rw[h.tr.m k hk,fnd_app,fnd_if]
 congr 1
 ·by_cases hz:z=(k:Int)
  ·rcases h.hz with e|⟨u,e,hu,hne⟩
   ·omega
   ·have:u=k:=by omega
    subst this
    obtain⟨n0,f,p,r,g1,g2,g3,g4,g5,g6,g7,g8,g9,g10,-⟩:=h.iv.headM hu hne
    rw[if_pos hz,g3]
    by_cases e:n=n0
    ·subst e
     rw[if_pos ⟨hz,rfl⟩,g10,g1,fnd_runQ g2 (fun x hx=>(g8 x hx).1),if_pos rfl,← g1]
     by_cases hd:p.lf=1
     ·rw[if_pos (.inl hd),if_pos (g9.2 hd)]
     ·rw[if_neg (by omega),if_neg (fun h=>hd (g9.1 h))];rfl
    ·rw[if_neg (fun h=>e h.2),g1,fnd_runQ g2 (fun x hx=>(g8 x hx).1),if_neg e]
  ·rw[if_neg hz,if_neg (fun h=>hz h.1)]
 ·by_cases hn:nwM l F s k n
  ·rw[if_pos hn]
   obtain⟨h1,h2,h3,h4⟩:=hn
   rw[if_pos ⟨⟨h1,h2,h3⟩,by dsimp only;omega⟩,← h4]
  ·rw[if_neg hn,if_neg (fun g=>hn ⟨g.1.1,g.1.2.1,g.1.2.2,by have:=g.2;dsimp only at this;omega⟩)]
theorem Tc.ends(h:Tc l tk cs Cm now F z s s'){k n:Nat}(hk:k<l.length)(he:En s n k≠-1):En s' n k=En s n k:=by
 rw[h.tr.e n k hk,if_neg]
 rintro⟨h1,h2⟩
 obtain⟨-,-,n',p,g3,-,-,g6,-⟩:=h.isD h1
 have:n=n':=by omega
 subst this
 exact he g6
theorem Tc.left(h:Tc l tk cs Cm now F z s s'){k:Nat}(hk:k<l.length)(n:Nat):lfJ l tk s' k n=if F k=true∧n=runC (J s k) then lfJ l tk s k n-1 else lfJ l tk s k n:=by
 unfold lfJ
 rw[h.fndJ hk n]
 by_cases hr:F k=true∧n=runC (J s k)
 ·rw[if_pos hr,if_pos hr]
  obtain⟨hF,hn⟩:=hr
  obtain⟨-,hne⟩:=h.hF k hF
  obtain⟨n0,p,r,g1,g2,g3,g4,g5,g6,g7,g8,g9⟩:=h.iv.head hk hne
  have:n=n0:=by omega
  subst this
  have hnw:¬ nwJ l F z s k n:=fun g=>by
   have:=(rlJ_no.1 (h.isNew hk g).1).1
   rw[g9]at this
   cases this
  rw[if_neg hnw,g9]
  by_cases hd:rD s F k=true
  ·rw[if_pos hd]
   have hl:p.lf=1:=g8.1 (by unfold rD at hd;rw[Bool.and_eq_true]at hd;exact hd.2)
   show(if En s' n k=-1 then _ else (0:Int))=p.lf-1
   rw[h.tr.e n k hk,if_pos (c:=rD s F k=true∧_) ⟨hd,hn⟩,if_neg (by have:=h.now0;omega)]
   omega
  ·rw[if_neg hd]
   rfl
 ·rw[if_neg hr,if_neg hr]
  have he:En s' n k=En s n k:=by
   rw[h.tr.e n k hk,if_neg]
   rintro⟨h1,h2⟩
   unfold rD at h1
   rw[Bool.and_eq_true]at h1
   exact hr ⟨h1.1,h2⟩
  cases e:fnd (J s k) n with
  | some p=>rfl
  | none =>
   by_cases hn:nwJ l F z s k n
   ·rw[if_pos hn]
    have:=(rlJ_no.1 (h.isNew hk hn).1).2
    show wkF l tk k n=if En s n k=-1 then _ else _
    rw[if_pos this]
   ·rw[if_neg hn]
    show(if En s' n k=-1 then _ else (0:Int))=_
    rw[he]
theorem Tc.grow(h:Tc l tk cs Cm now F z s s'){k n:Nat}(hk:k<l.length):rlJ s' k n=true↔rlJ s k n=true∨nwJ l F z s k n:=by
 constructor
 ·intro hr
  by_cases hn:nwJ l F z s k n
  ·exact .inr hn
  ·left
   unfold rlJ at hr ⊢
   rw[h.fndJ hk n,if_neg hn,Option.or_none]at hr
   by_cases hc:F k=true∧n=runC (J s k)
   ·obtain⟨hF,e⟩:=hc
    obtain⟨-,hne⟩:=h.hF k hF
    obtain⟨n0,p,r,g1,g2,g3,g4,g5,g6,g7,g8,g9⟩:=h.iv.head hk hne
    have:n=n0:=by omega
    subst this
    rw[g9];rfl
   ·rw[if_neg hc]at hr
    have he:En s' n k=En s n k:=by
     rw[h.tr.e n k hk,if_neg]
     rintro⟨h1,h2⟩
     unfold rD at h1
     rw[Bool.and_eq_true]at h1
     exact hc ⟨h1.1,h2⟩
    rw[he]at hr
    exact hr
 ·rintro(hr|hn)
  ·unfold rlJ at hr ⊢
   by_cases he:En s n k=-1
   ·rw[decide_eq_false (by simpa using he),Bool.or_false]at hr
    rw[h.fndJ hk n]
    by_cases hc:F k=true∧n=runC (J s k)
    ·rw[if_pos hc]
     by_cases hd:rD s F k=true
     ·rw[h.tr.e n k hk,if_pos (c:=rD s F k=true∧_) ⟨hd,hc.2⟩,decide_eq_true (by have:=h.now0;omega)]
      simp
     ·rw[if_neg hd]
      cases e:fnd (J s k) n with
      | some p=>rfl
      | none=>rw[e]at hr;cases hr
    ·rw[if_neg hc]
     cases e:fnd (J s k) n with
     | some p=>rfl
     | none=>rw[e]at hr;cases hr
   ·rw[h.ends hk he,decide_eq_true he,Bool.or_true]
  ·unfold rlJ
   rw[h.fndJ hk n,if_pos hn]
   have:∀a:Option Pc,(a.or (some ⟨n,now+1,wkF l tk k n⟩)).isSome=true:=fun a=>by cases a<;>rfl
   rw[this];rfl
end
end Keep
namespace Keep
theorem runQ_mem{q:List Pc}{p:Pc}(h:p∈runQ q):∃p0 r,q=p0::r∧((p={ p0 with lf:=p0.lf-1 }∧0<p0.lf-1)∨p∈r):=by
 cases q with
 | nil=>cases h
 | cons p0 r =>
  refine⟨p0,r,rfl,?_⟩
  by_cases hl:0<p0.lf-1
  ·rw[show runQ (p0::r)={ p0 with lf:=p0.lf-1 }::r from if_pos hl]at h
   rcases List.mem_cons.1 h with rfl|h
   ·exact .inl ⟨rfl,hl⟩
   ·exact .inr h
  ·rw[show runQ (p0::r)=r from if_neg hl]at h
   exact .inr h
theorem runQ_pw{R:Int→Int→Int→Int→Prop}{q:List Pc}(h:q.Pairwise (fun a b=>R a.cm a.si b.cm b.si)):(runQ q).Pairwise (fun a b=>R a.cm a.si b.cm b.si):=by
 cases q with
 | nil=>exact h
 | cons p0 r =>
  obtain⟨h1,h2⟩:=List.pairwise_cons.1 h
  by_cases hl:0<p0.lf-1
  ·rw[show runQ (p0::r)={ p0 with lf:=p0.lf-1 }::r from if_pos hl]
   exact List.pairwise_cons.2 ⟨h1,h2⟩
  ·rw[show runQ (p0::r)=r from if_neg hl]
   exact h2
theorem pw_if{R:Pc→Pc→Prop}{c:Prop}[Decidable c]{x:Pc}:(if c then [x] else []).Pairwise R:=by
 split
 ·exact List.pairwise_singleton _ _
 ·exact List.Pairwise.nil
theorem mem_if{c:Prop}[Decidable c]{x p:Pc}(h:p∈(if c then [x] else [])):c∧p=x:=by
 split at h
 ·next hc=>exact⟨hc,List.mem_singleton.1 h⟩
 ·cases h
section
variable {l:List Pa} {tk:List Int} {cs:List Co} {Cm:Nat→Prop} {now:Int} {F:Nat→Bool} {z:Int} {s s':Sc}
theorem Tc.noend(h:Tc l tk cs Cm now F z s s'){k n:Nat}(hk:k<l.length)(hr:rlJ s k n=false):En s' n k=-1:=by
 obtain⟨h1,h2⟩:=rlJ_no.1 hr
 rw[h.tr.e n k hk,if_neg]
 ·exact h2
 ·rintro⟨g1,g2⟩
  obtain⟨-,-,n',p,g3,g4,-⟩:=h.isD g1
  have:n=n':=by omega
  subst this
  rw[h1]at g4
  cases g4
theorem Iv.se0(h:PsOk l){k:Nat}(hk:k<l.length):0≤se l k:=(h.at_ k _ (some_getD (d:=paZ) hk)).se.1
theorem Iv.fr_lt(h:PsOk l){k f:Nat}(hk:k<l.length)(e:fr l k=(f:Int)):f<k:=by
 rcases fr_at h hk with ⟨g,-⟩|⟨f',g1,g2,-⟩
 ·omega
 ·omega
theorem Tc.growM(h:Tc l tk cs Cm now F z s s'){k n:Nat}(hk:k<l.length)(hr:rlM s k n=true∨nwM l F s k n):rlM s' k n=true:=by
 rcases hr with hr|hr
 ·by_cases hj:rlJ s k n=true
  ·unfold rlM
   rw[(h.grow hk).2 (.inl hj),Bool.or_true]
  ·unfold rlM at hr
   have hm:(fnd (M s k) n).isSome=true:=by
    rw[Bool.or_eq_true]at hr
    rcases hr with g|g
    ·exact g
    ·exact absurd g hj
   by_cases hc:z=(k:Int)∧n=runC (M s k)
   ·by_cases hd:runD (M s k)=true
    ·unfold rlM
     rw[(h.grow hk).2 (.inr (.inr ⟨hc.1,hd,hc.2⟩)),Bool.or_true]
    ·unfold rlM
     rw[h.fndM hk n,if_pos hc,if_neg hd]
     cases e:fnd (M s k) n with
     | some p=>rfl
     | none=>rw[e]at hm;cases hm
   ·unfold rlM
    rw[h.fndM hk n,if_neg hc]
    cases e:fnd (M s k) n with
    | some p=>rfl
    | none=>rw[e]at hm;cases hm
 ·unfold rlM
  rw[h.fndM hk n,if_pos hr]
  have:∀a:Option Pc,(a.or (some ⟨n,now+1,se l k⟩)).isSome=true:=fun a=>by cases a<;>rfl
  rw[this];rfl
theorem Tc.memJ(h:Tc l tk cs Cm now F z s s'){k:Nat}(hk:k<l.length){p:Pc}(hp:p∈(if F k=true then runQ (J s k) else J s k)):∃n:Nat,p.cm=n∧(fnd (J s k) n).isSome=true∧1≤p.lf∧p.lf≤wkF l tk k n∧En s' n k=-1:=by
 by_cases hF:F k=true
 ·rw[if_pos hF]at hp
  obtain⟨-,hne⟩:=h.hF k hF
  obtain⟨n0,p0,r,g1,g2,g3,g4,g5,g6,g7,g8,g9⟩:=h.iv.head hk hne
  obtain⟨p1,r1,e1,e2⟩:=runQ_mem hp
  rw[g1]at e1
  obtain⟨rfl,rfl⟩:=List.cons.inj e1
  rcases e2 with ⟨rfl,e3⟩|e2
  ·refine⟨n0,g2,by rw[g9];rfl,by dsimp only;omega,by dsimp only;omega,?_⟩
   rw[h.tr.e n0 k hk,if_neg]
   ·exact g4
   ·rintro⟨a1,-⟩
    unfold rD at a1
    rw[Bool.and_eq_true]at a1
    have:=g8.1 a1.2
    omega
  ·obtain⟨n,k1,k2,k3,k4⟩:=h.iv.j k hk p (by rw[g1];exact List.mem_cons_of_mem _ e2)
   refine⟨n,k1,fnd_isSome (by rw[g1];exact List.mem_cons_of_mem _ e2) k1,k3,k4,?_⟩
   rw[h.tr.e n k hk,if_neg]
   ·exact k2
   ·rintro⟨-,a2⟩
    have:=g7 p e2
    omega
 ·rw[if_neg hF]at hp
  obtain⟨n,k1,k2,k3,k4⟩:=h.iv.j k hk p hp
  refine⟨n,k1,fnd_isSome hp k1,k3,k4,?_⟩
  rw[h.tr.e n k hk,if_neg]
  ·exact k2
  ·rintro⟨a1,-⟩
   unfold rD at a1
   rw[Bool.and_eq_true]at a1
   exact hF a1.1
theorem Tc.next(h:Tc l tk cs Cm now F z s s'):Iv l tk cs Cm (now+1) s':=by
 have hout:∀n k,l.length≤k→En s' n k=-1:=fun n k hk=>by
  unfold En
  refine getD_ge ?_
  rw[h.tr.er]
  rcases Nat.lt_or_ge n cs.length with hn|hn
  ·rw[h.iv.er n hn];exact hk
  ·rw[getD_ge (a:=s.ends) (by rw[h.iv.le];exact hn)]
   exact Nat.zero_le _
 have hnewJ:∀k,k<l.length→∀n,nwJ l F z s k n→fnd (J s k) n=none:=fun k hk n hn=>(rlJ_no.1 (h.isNew hk hn).1).1
 refine⟨h.tr.lj,h.tr.lm,h.tr.le.trans h.iv.le,fun n hn=>(h.tr.er n).trans (h.iv.er n hn),fun n k=>?_,fun k hk p hp=>?_,fun k hk=>?_,fun k hk p hp=>?_,fun k hk=>?_,fun k n hk hr=>?_,fun k n hr hf hc=>?_,fun k n f hr hf he hs=>?_,fun k n f hr hf he hs=>?_,?_⟩
 ·rcases Nat.lt_or_ge k l.length with hk|hk
  ·rw[h.tr.e n k hk]
   have:=h.now0
   split
   ·right;omega
   ·rcases h.iv.ev n k with g|g
    ·exact .inl g
    ·right;omega
  ·exact .inl (hout n k hk)
 ·rw[h.tr.j k hk,List.mem_append,List.mem_append]at hp
  rcases hp with (hp|hp)|hp
  ·obtain⟨n,g1,-,g3,g4,g5⟩:=h.memJ hk hp
   exact⟨n,g1,g5,g3,g4⟩
  ·obtain⟨⟨c1,c2,c3⟩,rfl⟩:=mem_if hp
   have hn:=h.isNew (n:=runC (J s (fr l k).toNat)) hk (.inl ⟨c1,c2,c3,rfl⟩)
   exact⟨_,rfl,h.noend hk hn.1,(wkF_ok h.ok hk _).1,Int.le_refl _⟩
  ·obtain⟨⟨c1,c2⟩,rfl⟩:=mem_if hp
   have hn:=h.isNew (n:=runC (M s k)) hk (.inr ⟨c1,c2,rfl⟩)
   exact⟨_,rfl,h.noend hk hn.1,(wkF_ok h.ok hk _).1,Int.le_refl _⟩
 ·rw[h.tr.j k hk,List.pairwise_append,List.pairwise_append]
  have hAX:∀a∈(if F k=true then runQ (J s k) else J s k),∀n:Nat,nwJ l F z s k n→a.cm≠(n:Int):=fun a ha n hn e=>by
   obtain⟨n',g1,g2,-⟩:=h.memJ hk ha
   have:n'=n:=by omega
   subst this
   rw[hnewJ k hk n' hn]at g2
   cases g2
  refine⟨⟨?_,pw_if,fun a ha b hb=>?_⟩,pw_if,fun a ha b hb=>?_⟩
  ·split
   ·exact runQ_pw (R:=fun a _ b _=>a≠b) (h.iv.jd k hk)
   ·exact h.iv.jd k hk
  ·obtain⟨⟨c1,c2,c3⟩,rfl⟩:=mem_if hb
   exact hAX a ha _ (.inl ⟨c1,c2,c3,rfl⟩)
  ·obtain⟨⟨c1,c2⟩,rfl⟩:=mem_if hb
   rcases List.mem_append.1 ha with ha|ha
   ·exact hAX a ha _ (.inr ⟨c1,c2,rfl⟩)
   ·obtain⟨⟨b1,b2,b3⟩,rfl⟩:=mem_if ha
    exfalso
    rcases h.hz with e|⟨u,e,hu,hne⟩
    ·omega
    ·have:u=k:=by omega
     subst this
     obtain⟨-,-,p,-,-,-,-,-,-,b6,b7,-⟩:=h.iv.headM hu hne
     omega
 ·rw[h.tr.m k hk,List.mem_append]at hp
  rcases hp with hp|hp
  ·have hold:∃p0,p0∈M s k∧p.cm=p0.cm∧p.si=p0.si∧1≤p.lf∧p.lf≤p0.lf∧¬ (z=(k:Int)∧runD (M s k)=true∧p.cm=(runC (M s k):Int)):=by
    by_cases hz:z=(k:Int)
    ·rw[if_pos hz]at hp
     rcases h.hz with e|⟨u,e,hu,hne⟩
     ·omega
     have:u=k:=by omega
     subst this
     obtain⟨n0,f,p0,r,g1,g2,g3,g4,g5,g6,g7,g8,g9,g10,-⟩:=h.iv.headM hu hne
     obtain⟨p1,r1,e1,e2⟩:=runQ_mem hp
     rw[g1]at e1
     obtain⟨rfl,rfl⟩:=List.cons.inj e1
     rcases e2 with ⟨rfl,e3⟩|e2
     ·refine⟨p0,by rw[g1];exact List.mem_cons_self,rfl,rfl,by dsimp only;omega,by dsimp only;omega,?_⟩
      rintro⟨-,a2,-⟩
      have:=g9.1 a2
      omega
     ·have hm:=h.iv.m u hu p (by rw[g1];exact List.mem_cons_of_mem _ e2)
      obtain⟨-,-,-,-,-,q5,-⟩:=hm
      refine⟨p,by rw[g1];exact List.mem_cons_of_mem _ e2,rfl,rfl,q5,Int.le_refl _,?_⟩
      rintro⟨-,-,a3⟩
      exact(g8 p e2).1 (by omega)
    ·rw[if_neg hz]at hp
     obtain⟨-,-,-,-,-,q5,-⟩:=h.iv.m k hk p hp
     exact⟨p,hp,rfl,rfl,q5,Int.le_refl _,fun g=>hz g.1⟩
   obtain⟨p0,a1,a2,a3,a4,a5,a6⟩:=hold
   obtain⟨n,f,q1,q2,q3,q4,q5,q6,q7,q8⟩:=h.iv.m k hk p0 a1
   have hfk:=Iv.fr_lt h.ok hk q7
   have hr0:rlJ s k n=false:=rlJ_no.2 ⟨q2,q3⟩
   have hnw:¬ nwJ l F z s k n:=by
    rintro(⟨-,b2,-⟩|⟨b1,b2,b3⟩)
    ·omega
    ·exact a6 ⟨b1,b2,by omega⟩
   have hr1:rlJ s' k n=false:=by
    rw[← Bool.not_eq_true,h.grow hk]
    rintro(g|g)
    ·rw[hr0]at g;cases g
    ·exact hnw g
   refine⟨n,f,by omega,(rlJ_no.1 hr1).1,(rlJ_no.1 hr1).2,a4,by omega,by omega,q7,?_⟩
   rw[h.ends (by omega) q8]
   exact q8
  ·obtain⟨⟨c1,c2,c3⟩,rfl⟩:=mem_if hp
   obtain⟨g1,g2,g3,g4⟩:=h.hang hk c1 c3 rfl
   obtain⟨f,e1,-,-⟩:=h.from hk c1
   have hr1:rlJ s' k (runC (J s (fr l k).toNat))=false:=by
    rw[← Bool.not_eq_true,h.grow hk]
    rintro(g|g)
    ·rw[g1]at g;cases g
    ·rcases g with ⟨-,b2,-⟩|⟨b1,b2,b3⟩
     ·exact c2 b2
     ·rcases h.hz with e|⟨u,e,hu,hne⟩
      ·omega
      ·have:u=k:=by omega
       subst this
       obtain⟨n0,-,p,-,-,-,k3,-,-,-,-,-,-,k10,-⟩:=h.iv.headM hu hne
       have:runC (J s (fr l u).toNat)=n0:=by omega
       rw[this,k10]at g2
       cases g2
   have:=Iv.se0 h.ok hk
   exact⟨_,f,rfl,(rlJ_no.1 hr1).1,(rlJ_no.1 hr1).2,by dsimp only;omega,Int.le_refl _,Int.le_refl _,e1,g4 f e1⟩
 ·rw[h.tr.m k hk,List.pairwise_append]
  refine⟨?_,pw_if,fun a ha b hb=>?_⟩
  ·split
   ·exact runQ_pw (R:=fun a b c d=>a≠c∧b<d) (h.iv.md k hk)
   ·exact h.iv.md k hk
  ·obtain⟨⟨c1,c2,c3⟩,rfl⟩:=mem_if hb
   obtain⟨-,g2,-,-⟩:=h.hang hk c1 c3 rfl
   have hold:∃p0,p0∈M s k∧a.cm=p0.cm∧a.si=p0.si:=by
    by_cases hz:z=(k:Int)
    ·rw[if_pos hz]at ha
     obtain⟨p1,r1,e1,e2⟩:=runQ_mem ha
     rcases e2 with ⟨rfl,-⟩|e2
     ·exact⟨p1,by rw[e1];exact List.mem_cons_self,rfl,rfl⟩
     ·exact⟨a,by rw[e1];exact List.mem_cons_of_mem _ e2,rfl,rfl⟩
    ·rw[if_neg hz]at ha
     exact⟨a,ha,rfl,rfl⟩
   obtain⟨p0,a1,a2,a3⟩:=hold
   obtain⟨-,-,-,-,-,-,-,q6,-⟩:=h.iv.m k hk p0 a1
   refine⟨fun e=>fnd_none.1 g2 p0 a1 (by rw[← a2,e]),by dsimp only;omega⟩
 ·rcases(h.grow hk).1 hr with g|g
  ·obtain⟨g1,g2,g3⟩:=h.iv.rl k n hk g
   refine⟨g1,g2,fun f hf=>?_⟩
   have:=Iv.fr_lt h.ok hk hf
   rw[h.ends (by omega) (g3 f hf)]
   exact g3 f hf
  ·obtain⟨-,g2,f,g3,g4⟩:=h.isNew hk g
   refine⟨g2,fun e=>by omega,fun f' hf'=>?_⟩
   have:f'=f:=by omega
   subst this
   exact g4
 ·exact(h.grow hr.2.1).2 (.inl (h.iv.pr1 k n hr hf hc))
 ·have hfk:=Iv.fr_lt h.ok hr.2.1 hf
  have hk:=hr.2.1
  by_cases ho:En s n f≠-1
  ·exact(h.grow hk).2 (.inl (h.iv.pr2 k n f hr hf ho hs))
  ·rw[h.tr.e n f (by omega)]at he
   by_cases hc:rD s F f=true∧n=runC (J s f)
   ·exact(h.grow hk).2 (.inr (.inl ⟨by omega,hs,by rw[hf,Int.toNat_natCast];exact hc.1,by rw[hf,Int.toNat_natCast];exact hc.2⟩))
   ·rw[if_neg hc]at he
    exact absurd he ho
 ·have hfk:=Iv.fr_lt h.ok hr.2.1 hf
  have hk:=hr.2.1
  by_cases ho:En s n f≠-1
  ·exact h.growM hk (.inl (h.iv.pr3 k n f hr hf ho hs))
  ·rw[h.tr.e n f (by omega)]at he
   by_cases hc:rD s F f=true∧n=runC (J s f)
   ·exact h.growM hk (.inr ⟨by omega,hs,by rw[hf,Int.toNat_natCast];exact hc.1,by rw[hf,Int.toNat_natCast];exact hc.2⟩)
   ·rw[if_neg hc]at he
    exact absurd he ho
 ·rw[h.tr.un]
  rcases h.hz with rfl|⟨u,rfl,hu,hne⟩
  ·rw[if_pos rfl];exact .inl rfl
  ·rw[if_neg (by omega),Int.toNat_natCast]
   by_cases hd:runD (M s u)=true
   ·rw[if_pos hd];exact .inl rfl
   ·rw[if_neg hd]
    refine .inr ⟨u,rfl,hu,?_⟩
    obtain⟨n0,f,p0,r,g1,g2,g3,g4,g5,g6,g7,g8,g9,g10,-⟩:=h.iv.headM hu hne
    rw[h.tr.m u hu,if_pos rfl,g1]
    have hl:0<p0.lf-1:=by
     have:¬ p0.lf=1:=fun e=>hd (g9.2 e)
     omega
    rw[show runQ (p0::r)={ p0 with lf:=p0.lf-1 }::r from if_pos hl]
    simp
theorem Iv.comes(hok:PsOk l)(h:Iv l tk cs Cm now s){n k0:Nat}(hn:n<cs.length)(hk:(cs.getD n ⟨0,0⟩).k=(k0:Int))(hkl:k0<l.length)(hf:fr l k0=-1)(hc:¬ Cm n) :
  Iv l tk cs (fun i=>Cm i∨i=n) now (addJ l tk s k0 n now)∧(∀k i,k<l.length→lfJ l tk (addJ l tk s k0 n now) k i=lfJ l tk s k i)∧(∀k i,rlJ (addJ l tk s k0 n now) k i=true↔rlJ s k i=true∨(k=k0∧i=n)):=by
 have hJ:∀k,J (addJ l tk s k0 n now) k=if k=k0 then J s k0++[⟨n,now,wkF l tk k0 n⟩] else J s k:=fun k=>by
  unfold J addJ
  by_cases e:k=k0
  ·subst e
   rw[if_pos rfl]
   exact getD_set_self (by rw[h.lj];exact hkl)
  ·rw[if_neg e]
   exact getD_set_other (fun g=>e g.symm)
 have hM:∀k,M (addJ l tk s k0 n now) k=M s k:=fun k=>rfl
 have hE:∀i k,En (addJ l tk s k0 n now) i k=En s i k:=fun i k=>rfl
 have hno:rlJ s k0 n=false:=by
  rw[← Bool.not_eq_true]
  intro hr
  exact hc ((h.rl k0 n hkl hr).2.1 hf)
 obtain⟨hno1,hno2⟩:=rlJ_no.1 hno
 have hfnd:∀k i,fnd (J (addJ l tk s k0 n now) k) i=if k=k0∧i=n then some ⟨n,now,wkF l tk k0 n⟩ else fnd (J s k) i:=fun k i=>by
  rw[hJ]
  by_cases e:k=k0
  ·subst e
   rw[if_pos rfl,fnd_app]
   by_cases ei:i=n
   ·subst ei
    rw[if_pos ⟨rfl,rfl⟩,hno1,fnd_hit (by dsimp only)];rfl
   ·rw[if_neg (fun g=>ei g.2),fnd_miss (by dsimp only;omega)]
    exact Option.or_none
  ·rw[if_neg e,if_neg (fun g=>e g.1)]
 have hrl:∀k i,rlJ (addJ l tk s k0 n now) k i=true↔rlJ s k i=true∨(k=k0∧i=n):=fun k i=>by
  unfold rlJ
  rw[hfnd,hE]
  by_cases e:k=k0∧i=n
  ·rw[if_pos e]
   simp[e]
  ·rw[if_neg e]
   simp[e]
 have hreal:Real l cs n k0:=⟨hn,hkl,by rw[rt_self hf,hk];omega⟩
 refine⟨⟨by simp only[addJ,List.length_set];exact h.lj,h.lm,h.le,h.er,h.ev,fun k hk2 p hp=>?_,fun k hk2=>?_,fun k hk2 p hp=>?_,h.md,fun k i hk2 hr=>?_,fun k i hr hf2 hc2=>?_,fun k i f hr hf2 he hs=>?_,fun k i f hr hf2 he hs=>?_,h.un⟩,fun k i hk2=>?_,hrl⟩
 ·rw[hJ]at hp
  by_cases e:k=k0
  ·subst e
   rw[if_pos rfl,List.mem_append]at hp
   rcases hp with hp|hp
   ·exact h.j k hk2 p hp
   ·rw[List.mem_singleton.1 hp]
    exact⟨n,rfl,hno2,(wkF_ok hok hkl n).1,Int.le_refl _⟩
  ·rw[if_neg e]at hp
   exact h.j k hk2 p hp
 ·rw[hJ]
  by_cases e:k=k0
  ·subst e
   rw[if_pos rfl,List.pairwise_append]
   refine⟨h.jd k hk2,List.pairwise_singleton _ _,fun a ha b hb=>?_⟩
   rw[List.mem_singleton.1 hb]
   exact fnd_none.1 hno1 a ha
  ·rw[if_neg e]
   exact h.jd k hk2
 ·obtain⟨i,f,q1,q2,q3,q4,q5,q6,q7,q8⟩:=h.m k hk2 p hp
  refine⟨i,f,q1,?_,q3,q4,q5,q6,q7,q8⟩
  rw[hfnd,if_neg]
  ·exact q2
  ·rintro⟨rfl,-⟩
   omega
 ·rcases(hrl k i).1 hr with g|⟨rfl,rfl⟩
  ·obtain⟨g1,g2,g3⟩:=h.rl k i hk2 g
   exact⟨g1,fun e=>.inl (g2 e),g3⟩
  ·exact⟨hreal,fun _=>.inr rfl,fun f e=>by omega⟩
 ·rcases hc2 with g|rfl
  ·exact(hrl k i).2 (.inl (h.pr1 k i hr hf2 g))
  ·have:=hr.2.2
   rw[rt_self hf2,hk]at this
   exact(hrl k i).2 (.inr ⟨by omega,rfl⟩)
 ·exact(hrl k i).2 (.inl (h.pr2 k i f hr hf2 he hs))
 ·have:=h.pr3 k i f hr hf2 he hs
  unfold rlM at this ⊢
  rw[Bool.or_eq_true]at this ⊢
  rcases this with g|g
  ·exact .inl g
  ·exact .inr ((hrl k i).2 (.inl g))
 ·unfold lfJ
  rw[hfnd,hE]
  by_cases e:k=k0∧i=n
  ·obtain⟨rfl,rfl⟩:=e
   rw[if_pos ⟨rfl,rfl⟩,hno1]
   show wkF l tk k i=if En s i k=-1 then _ else _
   rw[if_pos hno2]
  ·rw[if_neg e]
theorem Iv.congr{Cm':Nat→Prop}(h:Iv l tk cs Cm now s)(hc:∀n,n<cs.length→(Cm n↔Cm' n)):Iv l tk cs Cm' now s :=
 ⟨h.lj,h.lm,h.le,h.er,h.ev,h.j,h.jd,h.m,h.md,fun k n hk hr=>⟨(h.rl k n hk hr).1,fun e=>(hc n (h.rl k n hk hr).1.1).1 ((h.rl k n hk hr).2.1 e),(h.rl k n hk hr).2.2⟩,fun k n hr hf hcm=>h.pr1 k n hr hf ((hc n hr.1).2 hcm),h.pr2,h.pr3,h.un⟩
end
def at_(cs:List Co)(n:Nat):Int:=(cs.getD n ⟨0,0⟩).a
theorem come_iv{l:List Pa}{tk:List Int}{cs:List Co}{now:Int}(hok:PsOk l)(hcs:∀n,n<cs.length→∃k0:Nat,(cs.getD n ⟨0,0⟩).k=(k0:Int)∧k0<l.length∧fr l k0=-1) :
  ∀(ws:List Nat) (Cm:Nat→Prop) (s:Sc),Iv l tk cs Cm now s→ws.Pairwise (fun a b=>at_ cs a≤at_ cs b)→ws.Nodup→(∀n∈ws,n<cs.length∧now≤at_ cs n∧¬ Cm n) →
   Iv l tk cs (fun n=>Cm n∨(n∈ws∧at_ cs n=now)) now (comeF l tk cs now ws s).2∧(∀n,n∈(comeF l tk cs now ws s).1↔n∈ws∧at_ cs n≠now)∧(comeF l tk cs now ws s).1.Pairwise (fun a b=>at_ cs a≤at_ cs b)∧(comeF l tk cs now ws s).1.Nodup ∧
   (comeF l tk cs now ws s).2.ends=s.ends∧(comeF l tk cs now ws s).2.mail=s.mail∧(comeF l tk cs now ws s).2.un=s.un∧(∀k i,k<l.length→lfJ l tk (comeF l tk cs now ws s).2 k i=lfJ l tk s k i)∧(∀k i,rlJ s k i=true→rlJ (comeF l tk cs now ws s).2 k i=true)∧(∀k i,k<l.length→se l k≠0→rlJ (comeF l tk cs now ws s).2 k i=rlJ s k i)
 | [],Cm,s,h,_,_,_=>⟨h.congr (fun n _=>by simp),fun n=>by simp[comeF],List.Pairwise.nil,List.nodup_nil,rfl,rfl,rfl,fun _ _ _=>rfl,fun _ _ g=>g,fun _ _ _ _=>rfl⟩
 | n::r,Cm,s,h,hs,hd,hw=>by
  obtain⟨h1,h2,h3⟩:=hw n List.mem_cons_self
  obtain⟨k0,k1,k2,k3⟩:=hcs n h1
  obtain⟨s1,s2⟩:=List.pairwise_cons.1 hs
  obtain⟨d1,d2⟩:=List.nodup_cons.1 hd
  by_cases e:(cs.getD n ⟨0,0⟩).a=now
  ·have e0:comeF l tk cs now (n::r) s=comeF l tk cs now r (addJ l tk s k0 n now):=by
    show(if (cs.getD n ⟨0,0⟩).a=now then _ else _)=_
    rw[if_pos e,k1,Int.toNat_natCast]
   rw[e0]
   obtain⟨g1,g2,g3⟩:=h.comes hok h1 k1 k2 k3 h3
   obtain⟨q1,q2,q3,q4,q5,q6,q7,q8,q9,q10⟩:=come_iv hok hcs r (fun i=>Cm i∨i=n) _ g1 s2 d2 (fun i hi=>by
    obtain⟨b1,b2,b3⟩:=hw i (List.mem_cons_of_mem _ hi)
    refine⟨b1,b2,?_⟩
    rintro(b|rfl)
    ·exact b3 b
    ·exact d1 hi)
   refine⟨q1.congr (fun i hi=>?_),fun i=>?_,q3,q4,q5,q6,q7,fun k i hk=>(q8 k i hk).trans (g2 k i hk),fun k i hr=>q9 k i ((g3 k i).2 (.inl hr)),fun k i hk hs=>(q10 k i hk hs).trans ?_⟩
   ·have en:at_ cs n=now:=e
    rw[List.mem_cons]
    constructor
    ·rintro((a|rfl)|⟨a1,a2⟩)
     ·exact .inl a
     ·exact .inr ⟨.inl rfl,en⟩
     ·exact .inr ⟨.inr a1,a2⟩
    ·rintro(a|⟨rfl|a1,a2⟩)
     ·exact .inl (.inl a)
     ·exact .inl (.inr rfl)
     ·exact .inr ⟨a1,a2⟩
   ·rw[q2,List.mem_cons]
    have en:at_ cs n=now:=e
    constructor
    ·rintro⟨a1,a2⟩;exact⟨.inr a1,a2⟩
    ·rintro⟨rfl|a1,a2⟩
     ·exact absurd en a2
     ·exact⟨a1,a2⟩
   ·rw[Bool.eq_iff_iff,g3]
    constructor
    ·rintro(a|⟨rfl,-⟩)
     ·exact a
     ·rcases fr_at hok k2 with ⟨-,b⟩|⟨f,b,-⟩
      ·exact absurd b hs
      ·omega
    ·exact fun a=>.inl a
  ·have e0:comeF l tk cs now (n::r) s=(n::r,s):=by
    show(if (cs.getD n ⟨0,0⟩).a=now then _ else _)=_
    rw[if_neg e]
   rw[e0]
   have hall:∀i∈n::r,at_ cs i≠now:=fun i hi=>by
    have hn0:at_ cs n≠now:=e
    rcases List.mem_cons.1 hi with rfl|hi
    ·exact hn0
    ·have:=s1 i hi
     omega
   exact⟨h.congr (fun i _=>⟨fun g=>.inl g,fun g=>g.elim id (fun g=>absurd g.2 (hall i g.1))⟩),fun i=>⟨fun g=>⟨g,hall i g⟩,fun g=>g.1⟩,hs,hd,rfl,rfl,rfl,fun _ _ _=>rfl,fun _ _ g=>g,fun _ _ _ _=>rfl⟩
end Keep
namespace Keep
def Ss(l:List Pa)(tk:List Int)(cs:List Co)(ord:List Nat)(t:Nat):Sc:=(playTo l tk cs ord t).2
def Zs(l:List Pa)(tk:List Int)(cs:List Co)(ord:List Nat)(t:Nat):Sc:=(comeF l tk cs t (playTo l tk cs ord t).1 (playTo l tk cs ord t).2).2
structure Lg (l:List Pa) (cs:List Co) (ord:List Nat):Prop where
 ok:PsOk l
 cs_:∀n,n<cs.length→∃k0:Nat,(cs.getD n ⟨0,0⟩).k=(k0:Int)∧k0<l.length∧fr l k0=-1
 a0:∀n,n<cs.length→0≤at_ cs n
 mem:∀n,n∈ord↔n<cs.length
 srt:ord.Pairwise (fun a b=>at_ cs a≤at_ cs b)
 nd:ord.Nodup
theorem scene_empty(n m k:Nat):J (scene0 n m) k=[]∧M (scene0 n m) k=[]:=by
 have:(List.replicate n ([]:List Pc)).getD k []=[]:=by
  rw[List.getD_eq_getElem?_getD,List.getElem?_replicate]
  split<;>rfl
 exact⟨this,this⟩
theorem scene_ends(n m i k:Nat):En (scene0 n m) i k=-1:=by
 unfold En scene0
 dsimp only
 by_cases hi:i<m
 ·rw[show(List.replicate m (List.replicate n (-1:Int))).getD i []=List.replicate n (-1) by rw[List.getD_eq_getElem?_getD,List.getElem?_replicate,if_pos hi];rfl]
  rw[List.getD_eq_getElem?_getD,List.getElem?_replicate]
  split<;>rfl
 ·rw[getD_ge (a:=List.replicate m (List.replicate n (-1:Int))) (by simp;omega)];rfl
section
variable {l:List Pa} {tk:List Int} {cs:List Co} {ord:List Nat}
theorem Lg.trace(h:Lg l cs ord):∀t:Nat,Iv l tk cs (fun n=>at_ cs n<(t:Int)) t (Ss l tk cs ord t)∧(∀n,n∈(playTo l tk cs ord t).1↔n<cs.length∧(t:Int)≤at_ cs n)∧(playTo l tk cs ord t).1.Pairwise (fun a b=>at_ cs a≤at_ cs b)∧(playTo l tk cs ord t).1.Nodup ∧
  (Iv l tk cs (fun n=>at_ cs n≤(t:Int)) t (Zs l tk cs ord t))∧∃F:Nat→Bool,Tc l tk cs (fun n=>at_ cs n≤(t:Int)) t F (sentF (Zs l tk cs ord t)) (Zs l tk cs ord t) (Ss l tk cs ord (t+1))∧(∀j k,F j=true→F k=true→co l j=co l k→j=k)∧(∀k,k<l.length→J (Zs l tk cs ord t) k≠[]→∃u,F u=true∧co l u=co l k∧(l.getD k paZ).p≤(l.getD u paZ).p):=by
 have key:∀t:Nat,Iv l tk cs (fun n=>at_ cs n<(t:Int)) t (Ss l tk cs ord t)→(∀n,n∈(playTo l tk cs ord t).1↔n<cs.length∧(t:Int)≤at_ cs n)→(playTo l tk cs ord t).1.Pairwise (fun a b=>at_ cs a≤at_ cs b)→(playTo l tk cs ord t).1.Nodup →
  (Iv l tk cs (fun n=>at_ cs n≤(t:Int)) t (Zs l tk cs ord t))∧∃F:Nat→Bool,Tc l tk cs (fun n=>at_ cs n≤(t:Int)) t F (sentF (Zs l tk cs ord t)) (Zs l tk cs ord t) (Ss l tk cs ord (t+1))∧(∀j k,F j=true→F k=true→co l j=co l k→j=k)∧(∀k,k<l.length→J (Zs l tk cs ord t) k≠[]→∃u,F u=true∧co l u=co l k∧(l.getD k paZ).p≤(l.getD u paZ).p):=by
  intro t h1 h2 h3 h4
  obtain⟨q1,-⟩:=come_iv (tk:=tk) (now:=(t:Int)) h.ok h.cs_ _ _ _ h1 h3 h4 (fun n hn=>by
   have:=(h2 n).1 hn
   exact⟨this.1,this.2,by omega⟩)
  have hZ:Iv l tk cs (fun n=>at_ cs n≤(t:Int)) t (Zs l tk cs ord t):=q1.congr (fun n hn=>by
   rw[h2]
   constructor
   ·rintro(g|g)<;>omega
   ·intro g
    by_cases e:at_ cs n<(t:Int)
    ·exact .inl e
    ·exact .inr ⟨⟨hn,by omega⟩,by omega⟩)
  refine⟨hZ,?_⟩
  have hsz:sentF (Zs l tk cs ord t)=-1∨∃u:Nat,sentF (Zs l tk cs ord t)=u∧u<l.length∧M (Zs l tk cs ord t) u≠[]:=by
   unfold sentF
   by_cases hu:(Zs l tk cs ord t).un=-1
   ·rw[if_pos hu]
    rcases firstM_at (Zs l tk cs ord t).mail 0 with g|⟨u,g1,g2,g3⟩
    ·exact .inl g
    ·exact .inr ⟨u,by rw[g1,Nat.zero_add],by rw[← hZ.lm];exact g2,g3⟩
   ·rw[if_neg hu]
    exact hZ.un
  obtain⟨F,f1,f2,f3,f4⟩:=tick_form (tk:=tk) (now:=(t:Int)) (s:=Zs l tk cs ord t) h.ok hZ.lj hZ.lm (fun k hne=>by
   have hk:k<l.length:=by
    rcases Nat.lt_or_ge k l.length with g|g
    ·exact g
    ·exact absurd (getD_ge (by rw[hZ.lj];exact g)) hne
   obtain⟨n,p,r,-,-,g3,g4,-,-,-,-,g9⟩:=hZ.head hk hne
   have hr:=(hZ.rl k n hk (by unfold rlJ;rw[g9];rfl)).1.1
   rw[g3]
   exact⟨by rw[hZ.le];exact hr,hZ.er n hr⟩) hsz
  exact⟨F,⟨h.ok,hZ,f1,by omega,f2,hsz⟩,f3,f4⟩
 have base:∀t:Nat,Iv l tk cs (fun n=>at_ cs n<(t:Int)) t (Ss l tk cs ord t)∧(∀n,n∈(playTo l tk cs ord t).1↔n<cs.length∧(t:Int)≤at_ cs n)∧(playTo l tk cs ord t).1.Pairwise (fun a b=>at_ cs a≤at_ cs b)∧(playTo l tk cs ord t).1.Nodup:=by
  intro t
  induction t with
  | zero =>
   have e1:Ss l tk cs ord 0=scene0 l.length cs.length:=rfl
   have e2:(playTo l tk cs ord 0).1=ord:=rfl
   rw[e1,e2]
   have hj:=fun k=>(scene_empty l.length cs.length k).1
   have hm:=fun k=>(scene_empty l.length cs.length k).2
   have he:=scene_ends l.length cs.length
   have hr:∀k n,rlJ (scene0 l.length cs.length) k n=false:=fun k n=>rlJ_no.2 ⟨by rw[hj];rfl,he n k⟩
   refine⟨⟨by simp[scene0],by simp[scene0],by simp[scene0],fun n hn=>?_,fun n k=>.inl (he n k),fun k _ p hp=>?_,fun k _=>?_,fun k _ p hp=>?_,fun k _=>?_,fun k n _ hq=>?_,fun k n hq _ hc=>?_,fun k n f _ _ hq=>absurd (he n f) hq,fun k n f _ _ hq=>absurd (he n f) hq,.inl rfl⟩,fun n=>?_,h.srt,h.nd⟩
   ·show((List.replicate cs.length (List.replicate l.length (-1:Int))).getD n []).length=_
    rw[List.getD_eq_getElem?_getD,List.getElem?_replicate,if_pos hn]
    simp
   ·rw[hj]at hp;cases hp
   ·rw[hj];exact List.Pairwise.nil
   ·rw[hm]at hp;cases hp
   ·rw[hm];exact List.Pairwise.nil
   ·rw[hr]at hq;cases hq
   ·have:=h.a0 n hq.1
    omega
   ·rw[h.mem]
    exact⟨fun g=>⟨g,h.a0 n g⟩,fun g=>g.1⟩
  | succ t ih =>
   obtain⟨h1,h2,h3,h4⟩:=ih
   obtain⟨hZ,F,hT,-,-⟩:=key t h1 h2 h3 h4
   obtain⟨-,q2,q3,q4,-⟩:=come_iv (tk:=tk) (now:=(t:Int)) h.ok h.cs_ _ _ _ h1 h3 h4 (fun n hn=>by
    have:=(h2 n).1 hn
    exact⟨this.1,this.2,by omega⟩)
   have hn:=hT.next
   rw[show((t+1:Nat):Int)=(t:Int)+1 by omega]
   refine⟨hn.congr (fun n _=>by omega),fun n=>?_,q3,q4⟩
   refine(q2 n).trans ?_
   rw[h2]
   omega
 intro t
 obtain⟨h1,h2,h3,h4⟩:=base t
 exact⟨h1,h2,h3,h4,key t h1 h2 h3 h4⟩
theorem Lg.link(h:Lg l cs ord)(t:Nat):(Zs l tk cs ord t).ends=(Ss l tk cs ord t).ends∧(Zs l tk cs ord t).mail=(Ss l tk cs ord t).mail∧(Zs l tk cs ord t).un=(Ss l tk cs ord t).un∧(∀k i,k<l.length→lfJ l tk (Zs l tk cs ord t) k i=lfJ l tk (Ss l tk cs ord t) k i)∧(∀k i,rlJ (Ss l tk cs ord t) k i=true→rlJ (Zs l tk cs ord t) k i=true)∧(∀k i,k<l.length→se l k≠0→rlJ (Zs l tk cs ord t) k i=rlJ (Ss l tk cs ord t) k i):=by
 obtain⟨h1,h2,h3,h4,-⟩:=h.trace (tk:=tk) t
 obtain⟨-,-,-,-,q5,q6,q7,q8,q9,q10⟩:=come_iv (tk:=tk) (now:=(t:Int)) h.ok h.cs_ _ _ _ h1 h3 h4 (fun n hn=>by
  have:=(h2 n).1 hn
  exact⟨this.1,this.2,by omega⟩)
 exact⟨q5,q6,q7,q8,q9,q10⟩
theorem Lg.en(h:Lg l cs ord)(t n k:Nat):En (Zs l tk cs ord t) n k=En (Ss l tk cs ord t) n k:=by
 unfold En
 rw[(h.link t).1]
theorem Lg.mm(h:Lg l cs ord)(t k:Nat):M (Zs l tk cs ord t) k=M (Ss l tk cs ord t) k:=by
 unfold M
 rw[(h.link t).2.1]
end
end Keep
namespace Keep
def lexF(l:List Pa)(jobs:List (List Pc))(u k:Nat):Prop:=(l.getD k paZ).p<(l.getD u paZ).p∨((l.getD k paZ).p=(l.getD u paZ).p∧(headS (jobs.getD u [])<headS (jobs.getD k [])∨(headS (jobs.getD u [])=headS (jobs.getD k [])∧u≤k)))
theorem firstsTo_least{l:List Pa}{jobs:List (List Pc)}(hco:∀k,k<l.length→co l k<4):∀K,K≤l.length→∀k,k<K→jobs.getD k []≠[]→∃u:Nat,(firstsTo l jobs K).getD (co l k) 0=u∧u<K∧lexF l jobs u k
 | 0,_,k,hk,_=>by omega
 | K+1,hK,k,hk,hne=>by
  have hl:=firstsTo_len l jobs K
  have e0:firstsTo l jobs (K+1)=stepFirst l jobs (firstsTo l jobs K) K:=rfl
  have hat:(firstsTo l jobs K)[co l K]?=some ((firstsTo l jobs K).getD (co l K) 0):=some_getD (by rw[hl];exact hco K (by omega))
  have hat':=firstsTo_at K (co l K) _ hat
  have ih:=fun h=>firstsTo_least hco K (by omega) k h hne
  have hcK:=hco K (by omega)
  rw[e0]
  generalize firstsTo l jobs K=fs at *
  unfold stepFirst
  by_cases hc:jobs.getD K []≠[]∧(fs.getD (l.getD K paZ).co.toNat 0=-1∨aheadQ l jobs K (fs.getD (l.getD K paZ).co.toNat 0).toNat=true)
  ·rw[if_pos hc]
   by_cases e:co l k=co l K
   ·refine⟨K,by rw[e];exact getD_set_self (by rw[hl];exact hcK),Nat.lt_succ_self K,?_⟩
    by_cases ek:k=K
    ·subst ek;exact .inr ⟨rfl,.inr ⟨rfl,Nat.le_refl _⟩⟩
    ·obtain⟨u,h1,hu,h2⟩:=ih (by omega)
     rcases hc.2 with h|h
     ·rw[e]at h1
      rw[show(l.getD K paZ).co.toNat=co l K from rfl,h1]at h
      omega
     ·rw[e]at h1
      rw[show(l.getD K paZ).co.toNat=co l K from rfl,h1,Int.toNat_natCast]at h
      unfold aheadQ at h
      unfold lexF at h2 ⊢
      by_cases hp:(l.getD K paZ).p≠(l.getD u paZ).p
      ·rw[if_pos hp]at h
       have:=of_decide_eq_true h
       omega
      ·rw[if_neg hp]at h
       have:=of_decide_eq_true h
       omega
   ·obtain⟨u,h1,hu,h2⟩:=ih (by
     rcases Nat.lt_or_ge k K with g|g
     ·exact g
     ·exact absurd (show co l k=co l K by rw[show k=K by omega]) e)
    exact⟨u,by rw[show(l.getD K paZ).co.toNat=co l K from rfl,getD_set_other (fun h=>e h.symm)];exact h1,by omega,h2⟩
  ·rw[if_neg hc]
   by_cases ek:k=K
   ·subst ek
    have h1:¬ (fs.getD (l.getD k paZ).co.toNat 0=-1∨aheadQ l jobs k (fs.getD (l.getD k paZ).co.toNat 0).toNat=true):=fun h=>hc ⟨hne,h⟩
    rcases hat' with h|⟨u,h,hu,-⟩
    ·exact absurd (.inl h) h1
    ·refine⟨u,h,by omega,?_⟩
     have h2:aheadQ l jobs k u≠true:=fun g=>h1 (.inr (by rw[show(l.getD k paZ).co.toNat=co l k from rfl,h,Int.toNat_natCast];exact g))
     unfold aheadQ at h2
     unfold lexF
     by_cases hp:(l.getD k paZ).p≠(l.getD u paZ).p
     ·rw[if_pos hp]at h2
      have:¬ (l.getD u paZ).p<(l.getD k paZ).p:=fun g=>h2 (decide_eq_true g)
      omega
     ·rw[if_neg hp]at h2
      have:¬ headS (jobs.getD k [])<headS (jobs.getD u []):=fun g=>h2 (decide_eq_true g)
      omega
   ·obtain⟨u,h1,hu,h2⟩:=ih (by omega)
    exact⟨u,h1,by omega,h2⟩
theorem tick_form2{l:List Pa}{tk:List Int}{now:Int}{s:Sc}(hok:PsOk l)(hj:s.jobs.length=l.length)(hm:s.mail.length=l.length)
  (hro:∀k,J s k≠[]→runC (J s k)<s.ends.length∧(s.ends.getD (runC (J s k)) []).length=l.length)
  (hz:sentF s=-1∨∃u:Nat,sentF s=u∧u<l.length∧M s u≠[]) :
  ∃F:Nat→Bool,TkR l tk now F (sentF s) s (tickF l tk s now)∧(∀k,F k=true→k<l.length∧J s k≠[])∧(∀k,F k=true↔k<l.length∧co l k<4∧(firstsTo l s.jobs l.length).getD (co l k) 0=(k:Int))∧(∀j k,F j=true→F k=true→co l j=co l k→j=k)∧(∀k,k<l.length→J s k≠[]→∃u,F u=true∧co l u=co l k∧(l.getD k paZ).p≤(l.getD u paZ).p):=by
 have hco:∀k,k<l.length→co l k<4:=fun k hk=>by
  have:=(hok.at_ k _ (some_getD (d:=paZ) hk)).co
  unfold co
  omega
 have hfl:=firstsTo_len l s.jobs l.length
 have hfs:∀c,c<4→(firstsTo l s.jobs l.length).getD c 0=-1∨∃u:Nat,(firstsTo l s.jobs l.length).getD c 0=u∧u<l.length∧J s u≠[]∧co l u=c:=fun c hc=>firstsTo_at (l:=l) (jobs:=s.jobs) l.length c _ (some_getD (by rw[hfl];exact hc))
 have hbest:=firstsTo_best (l:=l) (jobs:=s.jobs) hco l.length (Nat.le_refl _)
 have hC:=coresTo_form (l:=l) (tk:=tk) (now:=now) (s:={ s with un:=sentF s }) hok hj hm hro hfs 4 (Nat.le_refl _)
 unfold tickF
 generalize firstsTo l s.jobs l.length=fs at *
 generalize sentF s=z at *
 generalize coresTo l tk now fs { s with un:=z } 4=s4 at *
 have hF1:∀k,Fc l fs 4 k=true→k<l.length∧fs.getD (co l k) 0=(k:Int):=fun k h=>by
  unfold Fc at h
  simp only[Bool.and_eq_true,decide_eq_true_eq]at h
  exact⟨h.1.1,h.2⟩
 refine⟨Fc l fs 4,?_,fun k h=>?_,fun k=>?_,fun j k h1 h2 he=>?_,fun k hk hne=>?_⟩
 ·have hrd:∀u,rD { s with un:=z } (Fc l fs 4) u=rD s (Fc l fs 4) u:=fun _=>rfl
  unfold mailStep
  rcases hz with rfl|⟨u,rfl,hu,hne⟩
  ·rw[if_pos rfl]
   refine⟨hC.lj,hC.lm,hC.le,hC.er,by rw[if_pos rfl];exact hC.un,fun k hk=>?_,fun k hk=>?_,fun n k hk=>hC.e n k hk⟩
   ·rw[if_neg (c:=(-1:Int)=(k:Int)∧runD (M s k)=true) (fun h=>by omega),List.append_nil]
    exact hC.j k hk
   ·rw[if_neg (c:=(-1:Int)=(k:Int)) (by omega)]
    exact hC.m k hk
  ·have hMu:=hC.m u hu
   generalize hex:(if fr l u≠-1∧se l u≠0∧rD { s with un:=(u:Int) } (Fc l fs 4) (fr l u).toNat=true then [(⟨runC (J { s with un:=(u:Int) } (fr l u).toNat),now+1,se l u⟩:Pc)] else [])=ex at hMu
   have hM0:M { s with un:=(u:Int) } u=M s u:=rfl
   rw[hM0]at hMu
   have hq1:runQ (M s4 u)=runQ (M s u)++ex:=by rw[hMu];exact runQ_app hne
   have hq2:runC (M s4 u)=runC (M s u):=by rw[hMu];exact runC_app hne
   have hq3:runD (M s4 u)=runD (M s u):=by rw[hMu];exact runD_app hne
   rw[if_neg (by omega),Int.toNat_natCast,show s4.mail.getD u []=M s4 u from rfl,hq1,hq2,hq3]
   have hMk:∀k,k<l.length→(s4.mail.set u (runQ (M s u)++ex)).getD k []=(if (u:Int)=(k:Int) then runQ (M s k) else M s k)++(if fr l k≠-1∧se l k≠0∧rD s (Fc l fs 4) (fr l k).toNat=true then [⟨runC (J s (fr l k).toNat),now+1,se l k⟩] else []):=fun k hk=>by
    by_cases e:u=k
    ·subst e
     rw[getD_set_self (by rw[hC.lm];exact hu),if_pos rfl,← hex]
     rfl
    ·rw[getD_set_other e,if_neg (by omega)]
     exact hC.m k hk
   by_cases hd:runD (M s u)=true
   ·rw[if_pos hd]
    refine⟨by simp only[addJ,List.length_set];exact hC.lj,by simp only[addJ,List.length_set];exact hC.lm,hC.le,hC.er,?_,fun k hk=>?_,hMk,fun n k hk=>hC.e n k hk⟩
    ·rw[if_neg (by omega),Int.toNat_natCast,if_pos hd];rfl
    ·unfold J addJ
     dsimp only
     by_cases e:u=k
     ·subst e
      rw[getD_set_self (by rw[hC.lj];exact hu),if_pos (c:=(u:Int)=(u:Int)∧runD (M s u)=true) ⟨rfl,hd⟩]
      congr 1
      exact hC.j u hk
     ·rw[getD_set_other e,if_neg (c:=(u:Int)=(k:Int)∧runD (M s k)=true) (fun h=>by omega),List.append_nil]
      exact hC.j k hk
   ·rw[if_neg hd]
    refine⟨hC.lj,by simp only[List.length_set];exact hC.lm,hC.le,hC.er,?_,fun k hk=>?_,hMk,fun n k hk=>hC.e n k hk⟩
    ·rw[if_neg (by omega),Int.toNat_natCast,if_neg hd];exact hC.un
    ·rw[if_neg (c:=(u:Int)=(k:Int)∧runD (M s k)=true) (fun h=>by
      have:u=k:=by omega
      subst this
      exact hd h.2),List.append_nil]
     exact hC.j k hk
 ·obtain⟨h1,h2⟩:=hF1 k h
  refine⟨h1,?_⟩
  rcases hfs (co l k) (hco k h1) with g|⟨u,g1,g2,g3,g4⟩
  ·omega
  ·have:u=k:=by omega
   subst this
   exact g3
 ·unfold Fc
  simp only[Bool.and_eq_true,decide_eq_true_eq]
  constructor
  ·rintro⟨⟨g1,g2⟩,g3⟩;exact⟨g1,g2,g3⟩
  ·rintro⟨g1,g2,g3⟩;exact⟨⟨g1,g2⟩,g3⟩
 ·obtain⟨a1,a2⟩:=hF1 j h1
  obtain⟨b1,b2⟩:=hF1 k h2
  rw[he,b2]at a2
  omega
 ·obtain⟨u,h1,h2⟩:=hbest k hk hne
  rcases hfs (co l k) (hco k hk) with g|⟨v,g1,g2,g3,g4⟩
  ·omega
  ·have:v=u:=by omega
   subst this
   refine⟨v,?_,g4,h2⟩
   unfold Fc
   rw[decide_eq_true g2,g4,decide_eq_true (hco k hk),g1]
   simp
theorem Lg.tick2{l:List Pa}{tk:List Int}{cs:List Co}{ord:List Nat}(h:Lg l cs ord)(t:Nat):∃F:Nat→Bool,Tc l tk cs (fun n=>at_ cs n≤(t:Int)) t F (sentF (Zs l tk cs ord t)) (Zs l tk cs ord t) (Ss l tk cs ord (t+1))∧(∀k,F k=true↔k<l.length∧co l k<4∧(firstsTo l (Zs l tk cs ord t).jobs l.length).getD (co l k) 0=(k:Int)):=by
 obtain⟨-,-,-,-,hZ,-⟩:=h.trace (tk:=tk) t
 have hsz:sentF (Zs l tk cs ord t)=-1∨∃u:Nat,sentF (Zs l tk cs ord t)=u∧u<l.length∧M (Zs l tk cs ord t) u≠[]:=by
  unfold sentF
  by_cases hu:(Zs l tk cs ord t).un=-1
  ·rw[if_pos hu]
   rcases firstM_at (Zs l tk cs ord t).mail 0 with g|⟨u,g1,g2,g3⟩
   ·exact .inl g
   ·exact .inr ⟨u,by rw[g1,Nat.zero_add],by rw[← hZ.lm];exact g2,g3⟩
  ·rw[if_neg hu]
   exact hZ.un
 obtain⟨F,f1,f2,f3,-,-⟩:=tick_form2 (tk:=tk) (now:=(t:Int)) (s:=Zs l tk cs ord t) h.ok hZ.lj hZ.lm (fun k hne=>by
  have hk:k<l.length:=by
   rcases Nat.lt_or_ge k l.length with g|g
   ·exact g
   ·exact absurd (getD_ge (by rw[hZ.lj];exact g)) hne
  obtain⟨n,p,r,-,-,g3,g4,-,-,-,-,g9⟩:=hZ.head hk hne
  have hr:=(hZ.rl k n hk (by unfold rlJ;rw[g9];rfl)).1.1
  rw[g3]
  exact⟨by rw[hZ.le];exact hr,hZ.er n hr⟩) hsz
 exact⟨F,⟨h.ok,hZ,f1,by omega,f2,hsz⟩,f3⟩
theorem co_lt{l:List Pa}(hok:PsOk l){k:Nat}(hk:k<l.length):co l k<4:=by
 have:=(hok.at_ k _ (some_getD (d:=paZ) hk)).co
 unfold co
 omega
theorem F_iff{l:List Pa}{s:Sc}{F:Nat→Bool}(hok:PsOk l)(hF:∀k,F k=true↔k<l.length∧co l k<4∧(firstsTo l s.jobs l.length).getD (co l k) 0=(k:Int))(k:Nat)(hk:k<l.length)(hne:J s k≠[]) :
  F k=true↔∀j,j<l.length→J s j≠[]→co l j=co l k→lexF l s.jobs k j:=by
 have hL:=firstsTo_least (l:=l) (jobs:=s.jobs) (fun k hk=>co_lt hok hk) l.length (Nat.le_refl _)
 constructor
 ·intro h j hj hjn hc
  obtain⟨-,-,h3⟩:=(hF k).1 h
  obtain⟨u,g1,-,g2⟩:=hL j hj hjn
  rw[hc,h3]at g1
  have:k=u:=by omega
  subst this
  exact g2
 ·intro h
  obtain⟨u,g1,g0,g2⟩:=hL k hk hne
  have hat:=firstsTo_at (l:=l) (jobs:=s.jobs) l.length (co l k) _ (some_getD (d:=0) (by rw[firstsTo_len];exact co_lt hok hk))
  rcases hat with g|⟨v,g3,g4,g5,g6⟩
  ·omega
  ·have:v=u:=by omega
   subst this
   have h9:=h v g4 g5 g6
   have e:v=k:=by
    unfold lexF at h9 g2
    omega
   subst e
   exact(hF v).2 ⟨hk,co_lt hok hk,g1⟩
end Keep
namespace Keep
structure Th where
 pt:Nat
 cm:Nat
 si:Int
 lf:Int
def ahJ(l:List Pa)(x y:Th):Bool :=
 if (l.getD x.pt paZ).p≠(l.getD y.pt paZ).p then decide ((l.getD y.pt paZ).p<(l.getD x.pt paZ).p) else if x.si≠y.si then decide (x.si<y.si) else if x.pt≠y.pt then decide (x.pt<y.pt) else decide (x.cm<y.cm)
def ahM(x y:Th):Bool:=if x.pt≠y.pt then decide (x.pt<y.pt) else if x.si≠y.si then decide (x.si<y.si) else decide (x.cm<y.cm)
def Ke(x y:Th):Prop:=x.pt=y.pt∧x.cm=y.cm
instance (x y:Th):Decidable (Ke x y):=inferInstanceAs (Decidable (_∧_))
theorem ahJ_iff{l:List Pa}{x y:Th}:ahJ l x y=true↔(l.getD y.pt paZ).p<(l.getD x.pt paZ).p∨((l.getD x.pt paZ).p=(l.getD y.pt paZ).p∧(x.si<y.si∨(x.si=y.si∧(x.pt<y.pt∨(x.pt=y.pt∧x.cm<y.cm))))):=by
 unfold ahJ
 by_cases h1:(l.getD x.pt paZ).p=(l.getD y.pt paZ).p
 ·rw[if_neg (by simpa using h1)]
  by_cases h2:x.si=y.si
  ·rw[if_neg (by simpa using h2)]
   by_cases h3:x.pt=y.pt
   ·rw[if_neg (by simpa using h3),decide_eq_true_iff];omega
   ·rw[if_pos h3,decide_eq_true_iff];omega
  ·rw[if_pos h2,decide_eq_true_iff];omega
 ·rw[if_pos h1,decide_eq_true_iff];omega
theorem ahM_iff{x y:Th}:ahM x y=true↔x.pt<y.pt∨(x.pt=y.pt∧(x.si<y.si∨(x.si=y.si∧x.cm<y.cm))):=by
 unfold ahM
 by_cases h3:x.pt=y.pt
 ·rw[if_neg (by simpa using h3)]
  by_cases h2:x.si=y.si
  ·rw[if_neg (by simpa using h2),decide_eq_true_iff];omega
  ·rw[if_pos h2,decide_eq_true_iff];omega
 ·rw[if_pos h3,decide_eq_true_iff];omega
structure DJ (l:List Pa) (s:Sc) (jobs:List Th):Prop where
 nd:jobs.Pairwise (fun a b=>¬ Ke a b)
 mem:∀x:Th,x∈jobs↔x.pt<l.length∧fnd (J s x.pt) x.cm=some ⟨x.cm,x.si,x.lf⟩
structure DM (l:List Pa) (s:Sc) (mail:List Th) (sent:Option Th):Prop where
 nd:(sent.toList++mail).Pairwise (fun a b=>¬ Ke a b)
 mem:∀x:Th,x∈sent.toList++mail↔x.pt<l.length∧fnd (M s x.pt) x.cm=some ⟨x.cm,x.si,x.lf⟩
 no:sent=none→s.un=-1
 so:∀x,sent=some x→s.un=(x.pt:Int)∧runC (M s x.pt)=x.cm
theorem DJ.one{l:List Pa}{s:Sc}{jobs:List Th}(h:DJ l s jobs){x y:Th}(hx:x∈jobs)(hy:y∈jobs)(hk:Ke x y):x=y:=by
 obtain⟨-,h1⟩:=(h.mem x).1 hx
 obtain⟨-,h2⟩:=(h.mem y).1 hy
 rw[hk.1,hk.2,h2]at h1
 have h3:=Option.some.inj h1
 cases x;cases y
 simp only[Pc.mk.injEq]at h3
 obtain⟨h4,h5⟩:=hk
 dsimp only at *
 simp only[Th.mk.injEq]
 exact⟨h4,h5,h3.2.1.symm,h3.2.2.symm⟩
theorem DJ.perm{l:List Pa}{s:Sc}{a b:List Th}(h:DJ l s a)(hp:b.Perm a):DJ l s b :=
 ⟨hp.symm.pairwise h.nd (fun g k=>g ⟨k.1.symm,k.2.symm⟩),fun x=>hp.mem_iff.trans (h.mem x)⟩
theorem DM.perm{l:List Pa}{s:Sc}{a b:List Th}{sent:Option Th}(h:DM l s a sent)(hp:b.Perm a):DM l s b sent :=
 ⟨(hp.symm.append_left sent.toList).pairwise h.nd (fun g k=>g ⟨k.1.symm,k.2.symm⟩),fun x=>((hp.append_left sent.toList).mem_iff).trans (h.mem x),h.no,h.so⟩
def lexC(a b:Pc):Prop:=a.si<b.si∨(a.si=b.si∧a.cm<b.cm)
structure QS (l:List Pa) (s:Sc) (T:Int):Prop where
 pw:∀k,k<l.length→(J s k).Pairwise lexC
 le:∀k,k<l.length→∀p∈J s k,p.si≤T
 lt:∀k,k<l.length→fr l k=-1→∀p∈J s k,p.si<T
structure QZ (l:List Pa) (s:Sc) (T:Int):Prop where
 pw:∀k,k<l.length→(J s k).Pairwise lexC
 le:∀k,k<l.length→∀p∈J s k,p.si≤T
theorem J_add{l:List Pa}{tk:List Int}{s:Sc}{p n k:Nat}{now:Int}(hp:p<s.jobs.length):J (addJ l tk s p n now) k=if k=p then J s p++[⟨n,now,wkF l tk p n⟩] else J s k:=by
 unfold J addJ
 dsimp only
 by_cases e:k=p
 ·subst e
  rw[if_pos rfl,getD_set_self hp]
 ·rw[if_neg e,getD_set_other (fun g=>e g.symm)]
theorem come_fnd{l:List Pa}{tk:List Int}{cs:List Co}{now:Int}(hcs:∀n,n<cs.length→∃k0:Nat,(cs.getD n ⟨0,0⟩).k=(k0:Int)∧k0<l.length∧fr l k0=-1) :
  ∀(ws:List Nat) (s:Sc),s.jobs.length=l.length→ws.Pairwise (fun a b=>at_ cs a≤at_ cs b)→ws.Nodup→(∀n∈ws,n<cs.length∧now≤at_ cs n)→∀k n,
   fnd (J (comeF l tk cs now ws s).2 k) n=(fnd (J s k) n).or (if n∈ws∧at_ cs n=now∧(cs.getD n ⟨0,0⟩).k.toNat=k then some ⟨n,now,wkF l tk k n⟩ else none)
 | [],s,_,_,_,_,k,n=>by
  rw[if_neg (fun h=>by cases h.1),Option.or_none]
  rfl
 | m::r,s,hj,hs,hd,hw,k,n=>by
  obtain⟨s1,s2⟩:=List.pairwise_cons.1 hs
  obtain⟨d1,d2⟩:=List.nodup_cons.1 hd
  obtain⟨h1,h2⟩:=hw m List.mem_cons_self
  obtain⟨k0,k1,k2,k3⟩:=hcs m h1
  have e0:comeF l tk cs now (m::r) s=if (cs.getD m ⟨0,0⟩).a=now then comeF l tk cs now r (addJ l tk s (cs.getD m ⟨0,0⟩).k.toNat m now) else (m::r,s):=rfl
  rw[e0]
  by_cases hm:(cs.getD m ⟨0,0⟩).a=now
  ·rw[if_pos hm]
   have ek:(cs.getD m ⟨0,0⟩).k.toNat=k0:=by rw[k1,Int.toNat_natCast]
   rw[ek]
   have hm':at_ cs m=now:=hm
   have hjl:k0<s.jobs.length:=by rw[hj];exact k2
   rw[come_fnd hcs r _ (by unfold addJ;simp only[List.length_set];exact hj) s2 d2 (fun n hn=>hw n (List.mem_cons_of_mem _ hn)) k n,J_add hjl]
   by_cases e:k=k0
   ·subst e
    rw[if_pos rfl,fnd_app,Option.or_assoc]
    congr 1
    by_cases en:n=m
    ·subst en
     rw[fnd_hit rfl,if_pos (c:=n∈n::r∧_) ⟨List.mem_cons_self,hm',ek⟩]
     rfl
    ·rw[fnd_miss (by dsimp only;omega)]
     have:fnd [] n=none:=rfl
     rw[this,Option.none_or]
     congr 1
     simp only[List.mem_cons,en,false_or]
   ·rw[if_neg e]
    congr 1
    by_cases en:n=m
    ·subst en
     rw[if_neg (fun g=>d1 g.1),if_neg (fun g=>e (g.2.2.symm.trans ek))]
    ·simp only[List.mem_cons,en,false_or]
  ·rw[if_neg hm,if_neg (fun g=>?_),Option.or_none]
   have hm':at_ cs m≠now:=hm
   rcases List.mem_cons.1 g.1 with g1|g1
   ·subst g1;exact hm' g.2.1
   ·have:=s1 n g1
    omega
theorem come_QZ{l:List Pa}{tk:List Int}{cs:List Co}{now:Int}(hcs:∀n,n<cs.length→∃k0:Nat,(cs.getD n ⟨0,0⟩).k=(k0:Int)∧k0<l.length∧fr l k0=-1) :
  ∀(ws:List Nat) (s:Sc),s.jobs.length=l.length→ws.Pairwise (fun a b=>at_ cs a<at_ cs b∨(at_ cs a=at_ cs b∧a<b))→(∀n∈ws,n<cs.length∧now≤at_ cs n)→QZ l s now→(∀n∈ws,at_ cs n=now→∀k,k<l.length→fr l k=-1→∀p∈J s k,p.si<now∨p.cm<(n:Int))→QZ l (comeF l tk cs now ws s).2 now
 | [],s,_,_,_,h,_=>h
 | m::r,s,hj,hs,hw,h,hc=>by
  obtain⟨s1,s2⟩:=List.pairwise_cons.1 hs
  obtain⟨h1,h2⟩:=hw m List.mem_cons_self
  obtain⟨k0,k1,k2,k3⟩:=hcs m h1
  have e0:comeF l tk cs now (m::r) s=if (cs.getD m ⟨0,0⟩).a=now then comeF l tk cs now r (addJ l tk s (cs.getD m ⟨0,0⟩).k.toNat m now) else (m::r,s):=rfl
  rw[e0]
  by_cases hm:(cs.getD m ⟨0,0⟩).a=now
  ·rw[if_pos hm]
   have ek:(cs.getD m ⟨0,0⟩).k.toNat=k0:=by rw[k1,Int.toNat_natCast]
   rw[ek]
   have hm':at_ cs m=now:=hm
   have hjl:k0<s.jobs.length:=by rw[hj];exact k2
   have hle:∀k,k<l.length→∀p∈J (addJ l tk s k0 m now) k,p.si≤now:=fun k hk p hp=>by
    rw[J_add hjl]at hp
    by_cases e:k=k0
    ·subst e
     rw[if_pos rfl,List.mem_append,List.mem_singleton]at hp
     rcases hp with hp|rfl
     ·exact h.le k hk p hp
     ·exact Int.le_refl _
    ·rw[if_neg e]at hp
     exact h.le k hk p hp
   refine come_QZ hcs r _ (by unfold addJ;simp only[List.length_set];exact hj) s2 (fun n hn=>hw n (List.mem_cons_of_mem _ hn)) ⟨fun k hk=>?_,hle⟩ (fun n hn hnow k hk hf p hp=>?_)
   ·rw[J_add hjl]
    by_cases e:k=k0
    ·subst e
     rw[if_pos rfl,List.pairwise_append]
     refine⟨h.pw k hk,List.pairwise_singleton _ _,fun a ha b hb=>?_⟩
     rw[List.mem_singleton.1 hb]
     have g1:=h.le k hk a ha
     rcases hc m List.mem_cons_self hm' k hk k3 a ha with g|g
     ·exact .inl g
     ·by_cases g2:a.si<now
      ·exact .inl g2
      ·exact .inr ⟨by dsimp only;omega,g⟩
    ·rw[if_neg e];exact h.pw k hk
   ·have hlt:m<n:=by
     have:=s1 n hn
     omega
    rw[J_add hjl]at hp
    by_cases e:k=k0
    ·subst e
     rw[if_pos rfl,List.mem_append,List.mem_singleton]at hp
     rcases hp with hp|rfl
     ·exact hc n (List.mem_cons_of_mem _ hn) hnow k hk hf p hp
     ·exact .inr (by dsimp only;omega)
    ·rw[if_neg e]at hp
     exact hc n (List.mem_cons_of_mem _ hn) hnow k hk hf p hp
  ·rw[if_neg hm];exact h
end Keep
namespace Keep
section
variable {l:List Pa} {tk:List Int} {cs:List Co} {Cm:Nat→Prop} {now:Int} {F:Nat→Bool} {z:Int} {s s':Sc} {jobs mail:List Th} {sent:Option Th}
theorem head_th(hI:Iv l tk cs Cm now s)(hQ:QZ l s now)(hJ:DJ l s jobs){k:Nat}(hk:k<l.length)(hne:J s k≠[]) :
  ∃y∈jobs,y.pt=k∧y.cm=runC (J s k)∧y.si=headS (J s k)∧(runD (J s k)=true↔y.lf=1)∧∀x∈jobs,x.pt=k→x=y∨(y.si<x.si∨(y.si=x.si∧y.cm<x.cm)):=by
 obtain⟨n,p,r,e1,e2,e3,-,-,-,-,e7,e8⟩:=hI.head hk hne
 have hpw:=hQ.pw k hk
 have hp:p=⟨n,p.si,p.lf⟩:=by cases p;dsimp only at e2;subst e2;rfl
 have hm:(⟨k,n,p.si,p.lf⟩:Th)∈jobs:=(hJ.mem _).2 ⟨hk,by rw[e8];exact congrArg some hp⟩
 refine⟨⟨k,n,p.si,p.lf⟩,hm,rfl,e3.symm,by rw[e1];rfl,e7,fun x hx hxk=>?_⟩
 obtain⟨-,g2⟩:=(hJ.mem x).1 hx
 rw[hxk]at g2
 have g3:=(fnd_some g2).1
 rw[e1]at g3 hpw
 rcases List.mem_cons.1 g3 with g3|g3
 ·left
  refine hJ.one hx hm ⟨hxk,?_⟩
  have:=congrArg Pc.cm g3
  dsimp only at this ⊢
  omega
 ·right
  rcases(List.pairwise_cons.1 hpw).1 _ g3 with g|⟨g,g'⟩
  ·exact .inl g
  ·exact .inr ⟨g,by dsimp only at g' ⊢;omega⟩
def ranX(s:Sc)(F:Nat→Bool)(x:Th):Bool:=F x.pt && decide (x.cm=runC (J s x.pt))
theorem ran_iff(hok:PsOk l)(hI:Iv l tk cs Cm now s)(hQ:QZ l s now)(hJ:DJ l s jobs)(hF:∀k,F k=true↔k<l.length∧co l k<4∧(firstsTo l s.jobs l.length).getD (co l k) 0=(k:Int)){x:Th}(hx:x∈jobs) :
  ranX s F x=true↔∀y∈jobs,co l y.pt=co l x.pt→y=x∨ahJ l x y=true:=by
 obtain⟨hxl,hxf⟩:=(hJ.mem x).1 hx
 have hxn:J s x.pt≠[]:=fun e=>by rw[e]at hxf;cases hxf
 obtain⟨u,u1,u2,u3,u4,-,u6⟩:=head_th hI hQ hJ hxl hxn
 have hFi:=F_iff hok hF x.pt hxl hxn
 unfold ranX
 rw[Bool.and_eq_true,decide_eq_true_iff,hFi]
 constructor
 ·rintro⟨h1,h2⟩ y hy hc
  have hxu:x=u:=hJ.one hx u1 ⟨u2.symm,by rw[u3];exact h2⟩
  obtain⟨hyl,hyf⟩:=(hJ.mem y).1 hy
  have hyn:J s y.pt≠[]:=fun e=>by rw[e]at hyf;cases hyf
  obtain⟨v,v1,v2,v3,v4,-,v6⟩:=head_th hI hQ hJ hyl hyn
  have h3:=h1 y.pt hyl hyn hc
  have e1:headS (s.jobs.getD x.pt [])=x.si:=by rw[hxu];rw[u2];exact u4.symm
  have e2:headS (s.jobs.getD y.pt [])=v.si:=v4.symm
  unfold lexF at h3
  rw[e1,e2]at h3
  rw[ahJ_iff]
  rcases v6 y hy rfl with g|g
  ·subst g
   by_cases e:y.pt=x.pt
   ·left
    rcases u6 y hy e with k1|k1
    ·exact k1.trans hxu.symm
    ·rcases v6 x hx e.symm with k2|k2
     ·exact k2.symm
     ·rw[← hxu]at k1;omega
   ·right
    have:=h3
    omega
  ·right
   by_cases e:y.pt=x.pt
   ·have e4:v.si=x.si∧v.cm=x.cm:=by
     rw[hxu]
     refine⟨?_,?_⟩
     ·rw[v4,u4,e]
     ·rw[v3,u3,e]
    omega
   ·omega
 ·intro h
  refine⟨fun j hj hjn hc=>?_,?_⟩
  ·obtain⟨v,v1,v2,v3,v4,-,v6⟩:=head_th hI hQ hJ hj hjn
   have e1:headS (s.jobs.getD x.pt [])=u.si:=u4.symm
   have e2:headS (s.jobs.getD j [])=v.si:=v4.symm
   have hu:u.si≤x.si:=by rcases u6 x hx rfl with g|g|g<;>(try rw[g])<;>omega
   unfold lexF
   rw[e1,e2]
   rcases h v v1 (by rw[v2];exact hc) with g|g
   ·have:j=x.pt:=by rw[← v2,g]
    subst this
    exact .inr ⟨rfl,.inr ⟨by rw[u4,v4],Nat.le_refl _⟩⟩
   ·rw[ahJ_iff,v2]at g
    omega
  ·rcases h u u1 (by rw[u2]) with g|g
   ·rw[← u3,g]
   ·rw[ahJ_iff,u2]at g
    rcases u6 x hx rfl with k1|k1
    ·rw[← u3,k1]
    ·omega
end
structure Ds where
 st:List Th
 bg:List Th
 ml:List Th
 out:List (List Int)
 bz:List Nat
def hangB(l:List Pa)(tk:List Int)(pt cm:Nat)(now:Int):Nat→List Th
 | 0=>[]
 | k+1=>hangB l tk pt cm now k++(if fr l k=(pt:Int)∧se l k=0 then [⟨k,cm,now,wkF l tk k cm⟩] else [])
def hangM(l:List Pa)(pt cm:Nat)(now:Int):Nat→List Th
 | 0=>[]
 | k+1=>hangM l pt cm now k++(if fr l k=(pt:Int)∧0<se l k then [⟨k,cm,now,se l k⟩] else [])
def setO(o:List (List Int))(j:Th)(now:Int):List (List Int):=o.set j.cm ((o.getD j.cm []).set j.pt now)
def stepD(l:List Pa)(tk:List Int)(now:Int)(d:Ds)(j:Th):Ds :=
 if co l j.pt∈d.bz then { d with st:=d.st++[j] }
 else if 1<j.lf then { d with st:=d.st++[{ j with lf:=j.lf-1 }],bz:=co l j.pt::d.bz }
 else { st:=d.st,bg:=d.bg++hangB l tk j.pt j.cm now l.length,ml:=d.ml++hangM l j.pt j.cm now l.length,out:=setO d.out j now,bz:=co l j.pt::d.bz }
def stF(ran:Th→Bool)(x:Th):Option Th:=if ran x=true then (if 1<x.lf then some { x with lf:=x.lf-1 } else none) else some x
def dnF(ran:Th→Bool)(x:Th):Bool:=ran x && decide (¬ 1<x.lf)
theorem ahJ_asym{l:List Pa}{x y:Th}(h:ahJ l x y=true):¬ ahJ l y x=true:=by
 rw[ahJ_iff]at *
 omega
theorem loopD_form{l:List Pa}{tk:List Int}{now:Int}{jobs:List Th}{ran:Th→Bool}(hs:jobs.Pairwise (fun a b=>ahJ l a b=true))(hr:∀x∈jobs,(ran x=true↔∀y∈jobs,co l y.pt=co l x.pt→y=x∨ahJ l x y=true)) :
  ∀(suf pre:List Th) (d:Ds),jobs=pre++suf→(∀c,c∈d.bz↔∃y∈pre,co l y.pt=c) →
   (suf.foldl (stepD l tk now) d).st=d.st++suf.filterMap (stF ran)∧(suf.foldl (stepD l tk now) d).bg=d.bg++(suf.filter (dnF ran)).flatMap (fun j=>hangB l tk j.pt j.cm now l.length) ∧
   (suf.foldl (stepD l tk now) d).ml=d.ml++(suf.filter (dnF ran)).flatMap (fun j=>hangM l j.pt j.cm now l.length)∧(suf.foldl (stepD l tk now) d).out=(suf.filter (dnF ran)).foldl (fun o j=>setO o j now) d.out
 | [],pre,d,_,_=>by simp
 | j::r,pre,d,hj,hb=>by
  have hjm:j∈jobs:=by rw[hj];simp
  have hpw:=hs
  rw[hj]at hpw
  obtain⟨p1,p2,p3⟩:=List.pairwise_append.1 hpw
  have key:ran j=true↔¬ co l j.pt∈d.bz:=by
   rw[hr j hjm,hb]
   constructor
   ·rintro h ⟨y,hy,hc⟩
    have h1:=p3 y hy j List.mem_cons_self
    rcases h y (by rw[hj];exact List.mem_append_left _ hy) hc with g|g
    ·subst g
     exact ahJ_asym h1 h1
    ·exact ahJ_asym h1 g
   ·intro h y hy hc
    rw[hj]at hy
    rcases List.mem_append.1 hy with hy|hy
    ·exact absurd ⟨y,hy,hc⟩ h
    ·rcases List.mem_cons.1 hy with hy|hy
     ·exact .inl hy
     ·exact .inr ((List.pairwise_cons.1 p2).1 y hy)
  have hj':jobs=(pre++[j])++r:=by rw[hj,List.append_assoc];rfl
  have hb':∀(bz:List Nat),(∀c,c∈bz↔c=co l j.pt∨c∈d.bz)→∀c,c∈bz↔∃y∈pre++[j],co l y.pt=c:=fun bz h c=>by
   rw[h,hb]
   constructor
   ·rintro(rfl|⟨y,h1,h2⟩)
    ·exact⟨j,by simp,rfl⟩
    ·exact⟨y,List.mem_append_left _ h1,h2⟩
   ·rintro⟨y,h1,h2⟩
    rcases List.mem_append.1 h1 with h1|h1
    ·exact .inr ⟨y,h1,h2⟩
    ·rw[List.mem_singleton.1 h1]at h2;exact .inl h2.symm
  rw[List.foldl_cons]
  by_cases hc:co l j.pt∈d.bz
  ·have hn:ran j=false:=by
    cases e:ran j with
    | false=>rfl
    | true=>exact absurd hc (key.1 e)
   have e0:stepD l tk now d j={ d with st:=d.st++[j] }:=by unfold stepD;rw[if_pos hc]
   obtain⟨q1,q2,q3,q4⟩:=loopD_form hs hr r (pre++[j]) (stepD l tk now d j) hj' (hb' _ (fun c=>by rw[e0];exact⟨.inr,fun h=>h.elim (fun e=>e ▸ hc) id⟩))
   have e1:stF ran j=some j:=by unfold stF;rw[hn,if_neg (by decide)]
   have e2:dnF ran j=false:=by unfold dnF;rw[hn];rfl
   rw[List.filterMap_cons_some e1,List.filter_cons_of_neg (by rw[e2];decide)]
   rw[q1,q2,q3,q4,e0]
   exact⟨by simp,rfl,rfl,rfl⟩
  ·have hn:ran j=true:=key.2 hc
   by_cases hl:1<j.lf
   ·have e0:stepD l tk now d j={ d with st:=d.st++[{ j with lf:=j.lf-1 }],bz:=co l j.pt::d.bz }:=by unfold stepD;rw[if_neg hc,if_pos hl]
    obtain⟨q1,q2,q3,q4⟩:=loopD_form hs hr r (pre++[j]) (stepD l tk now d j) hj' (hb' _ (fun c=>by rw[e0];exact List.mem_cons))
    have e1:stF ran j=some { j with lf:=j.lf-1 }:=by unfold stF;rw[if_pos hn,if_pos hl]
    have e2:dnF ran j=false:=by unfold dnF;rw[hn];simp[hl]
    rw[List.filterMap_cons_some e1,List.filter_cons_of_neg (by rw[e2];decide)]
    rw[q1,q2,q3,q4,e0]
    exact⟨by simp,rfl,rfl,rfl⟩
   ·have e0:stepD l tk now d j={ st:=d.st,bg:=d.bg++hangB l tk j.pt j.cm now l.length,ml:=d.ml++hangM l j.pt j.cm now l.length,out:=setO d.out j now,bz:=co l j.pt::d.bz }:=by unfold stepD;rw[if_neg hc,if_neg hl]
    obtain⟨q1,q2,q3,q4⟩:=loopD_form hs hr r (pre++[j]) (stepD l tk now d j) hj' (hb' _ (fun c=>by rw[e0];exact List.mem_cons))
    have e1:stF ran j=none:=by unfold stF;rw[if_pos hn,if_neg hl]
    have e2:dnF ran j=true:=by unfold dnF;rw[hn];simp[hl]
    rw[List.filterMap_cons_none e1,List.filter_cons_of_pos e2]
    rw[q1,q2,q3,q4,e0]
    exact⟨rfl,by simp,by simp,rfl⟩
theorem hangB_mem{l:List Pa}{tk:List Int}{pt cm:Nat}{now:Int}{x:Th}:∀K,x∈hangB l tk pt cm now K↔x.pt<K∧fr l x.pt=(pt:Int)∧se l x.pt=0∧x.cm=cm∧x.si=now∧x.lf=wkF l tk x.pt cm
 | 0=>by simp[hangB]
 | K+1=>by
  rw[hangB,List.mem_append,hangB_mem K]
  by_cases hc:fr l K=(pt:Int)∧se l K=0
  ·rw[if_pos hc,List.mem_singleton]
   constructor
   ·rintro(⟨h1,h2⟩|rfl)
    ·exact⟨by omega,h2⟩
    ·exact⟨Nat.lt_succ_self K,hc.1,hc.2,rfl,rfl,rfl⟩
   ·rintro⟨h1,h2⟩
    by_cases e:x.pt=K
    ·right
     obtain⟨a,b,c,d⟩:=x
     dsimp only at *
     subst e
     obtain⟨-,-,rfl,rfl,rfl⟩:=h2
     rfl
    ·exact .inl ⟨by omega,h2⟩
  ·rw[if_neg hc]
   constructor
   ·rintro(⟨h1,h2⟩|h)
    ·exact⟨by omega,h2⟩
    ·cases h
   ·rintro⟨h1,h2⟩
    by_cases e:x.pt=K
    ·subst e;exact absurd ⟨h2.1,h2.2.1⟩ hc
    ·exact .inl ⟨by omega,h2⟩
theorem hangM_mem{l:List Pa}{pt cm:Nat}{now:Int}{x:Th}:∀K,x∈hangM l pt cm now K↔x.pt<K∧fr l x.pt=(pt:Int)∧0<se l x.pt∧x.cm=cm∧x.si=now∧x.lf=se l x.pt
 | 0=>by simp[hangM]
 | K+1=>by
  rw[hangM,List.mem_append,hangM_mem K]
  by_cases hc:fr l K=(pt:Int)∧0<se l K
  ·rw[if_pos hc,List.mem_singleton]
   constructor
   ·rintro(⟨h1,h2⟩|rfl)
    ·exact⟨by omega,h2⟩
    ·exact⟨Nat.lt_succ_self K,hc.1,hc.2,rfl,rfl,rfl⟩
   ·rintro⟨h1,h2⟩
    by_cases e:x.pt=K
    ·right
     obtain⟨a,b,c,d⟩:=x
     dsimp only at *
     subst e
     obtain⟨-,-,rfl,rfl,rfl⟩:=h2
     rfl
    ·exact .inl ⟨by omega,h2⟩
  ·rw[if_neg hc]
   constructor
   ·rintro(⟨h1,h2⟩|h)
    ·exact⟨by omega,h2⟩
    ·cases h
   ·rintro⟨h1,h2⟩
    by_cases e:x.pt=K
    ·subst e;exact absurd ⟨h2.1,h2.2.1⟩ hc
    ·exact .inl ⟨by omega,h2⟩
theorem hangB_pw(l:List Pa)(tk:List Int)(pt cm:Nat)(now:Int):∀K,(hangB l tk pt cm now K).Pairwise (fun a b=>¬ Ke a b)
 | 0=>List.Pairwise.nil
 | K+1=>by
  rw[hangB,List.pairwise_append]
  refine⟨hangB_pw l tk pt cm now K,by split<;>simp,fun a ha b hb=>?_⟩
  have h1:=((hangB_mem K).1 ha).1
  split at hb
  ·rw[List.mem_singleton.1 hb]
   intro g
   have:=g.1
   dsimp only at this
   omega
  ·cases hb
theorem hangM_pw(l:List Pa)(pt cm:Nat)(now:Int):∀K,(hangM l pt cm now K).Pairwise (fun a b=>¬ Ke a b)
 | 0=>List.Pairwise.nil
 | K+1=>by
  rw[hangM,List.pairwise_append]
  refine⟨hangM_pw l pt cm now K,by split<;>simp,fun a ha b hb=>?_⟩
  have h1:=((hangM_mem K).1 ha).1
  split at hb
  ·rw[List.mem_singleton.1 hb]
   intro g
   have:=g.1
   dsimp only at this
   omega
  ·cases hb
end Keep
end Go.Proofs.YtccoobcggbbcialGreatDoor
namespace Go.Proofs.YtccoobcggbbcialGreatDoor
open Go.ChangeShapes Go.WideShapes Go.ChangeAt Go.RowKit
open Keep
theorem nodup_at{α:Type}{q:List α}(h:q.Nodup){i j:Nat}{x:α}(hi:q[i]?=some x)(hj:q[j]?=some x):i=j:=by
 obtain⟨h1,h2⟩:=List.getElem?_eq_some_iff.1 hi
 obtain⟨h3,h4⟩:=List.getElem?_eq_some_iff.1 hj
 have hp:=List.pairwise_iff_getElem.1 h
 rcases Nat.lt_trichotomy i j with g|g|g
 ·exact absurd (h2.trans h4.symm) (hp i j h1 h3 g)
 ·exact g
 ·exact absurd (h4.trans h2.symm) (hp j i h3 h1 g)
theorem pw_get{α:Type}{R:α→α→Prop}{q:List α}(h:q.Pairwise R){i j:Nat}(hij:i<j){x y:α}(hx:q[i]?=some x)(hy:q[j]?=some y):R x y:=by
 obtain⟨h1,h2⟩:=List.getElem?_eq_some_iff.1 hx
 obtain⟨h3,h4⟩:=List.getElem?_eq_some_iff.1 hy
 have:=List.pairwise_iff_getElem.1 h i j h1 h3 hij
 rwa[h2,h4]at this
theorem infoPv:(Tryz.prog.info? 131).map (fun i=>(i.zero,i.size,i.bytes))=some (some (.pointer none),1,8):=by kernel_rfl
def pvv(b:Nat):Value:=.pointer (some ⟨b,0,none⟩)
def PtR(W:World)(v:Value)(bs:List Nat):Prop:=(v = .slice none 0 0∧bs=[])∨∃g o c cur,v = .slice (some ⟨g,o,none⟩) bs.length c∧bs.length≤c∧c≤maxLen∧W.heap[g]?=some (.cells cur 131 (0,0))∧o+c≤cur.size∧∀(j:Nat) (b:Nat),bs[j]?=some b→cur[o+j]?=some (pvv b)
theorem PtR.nil(W:World):PtR W (.slice none 0 0) []:=.inl ⟨rfl,rfl⟩
theorem PtR.keep{W W':World}{v:Value}{q:List Nat}(h:PtR W v q)(hk:∀g,v.ownBlock=some g→W'.heap[g]?=W.heap[g]?):PtR W' v q:=by
 rcases h with h|⟨g,o,c,cur,rfl,h1,h2,h3,h4⟩
 ·exact .inl h
 ·exact .inr ⟨g,o,c,cur,rfl,h1,h2,(hk g rfl).trans h3,h4⟩
theorem PtR.ty{W:World}{v:Value}{q:List Nat}(h:PtR W v q){g:Nat}(hg:v.ownBlock=some g):∃cur,W.heap[g]?=some (.cells cur 131 (0,0)):=by
 rcases h with ⟨rfl,-⟩|⟨g',o,c,cur,rfl,h1,h2,h3,h4⟩
 ·cases hg
 ·cases hg
  exact⟨cur,h3⟩
theorem PtR.val{W:World}{v:Value}{q:List Nat}(h:PtR W v q):∃ad c,v = .slice ad q.length c:=by
 rcases h with ⟨rfl,rfl⟩|⟨g,o,c,cur,rfl,-⟩
 ·exact⟨_,_,rfl⟩
 ·exact⟨_,_,rfl⟩
theorem PtR.cells{W:World}{v:Value}{q:List Nat}(h:PtR W v q)(hq:q≠[]):∃g o c,v = .slice (some ⟨g,o,none⟩) q.length c∧q.length≤c∧g<W.heap.size∧∀(j b:Nat),q[j]?=some b→W.cell? ⟨g,o+j,none⟩=some (pvv b):=by
 rcases h with ⟨-,h⟩|⟨g,o,c,cur,rfl,h1,h2,h3,h4,h5⟩
 ·exact absurd h hq
 ·exact⟨g,o,c,rfl,h1,(Array.getElem?_eq_some_iff.1 h3).1,fun j b hj=>(cells_of (l:=cur.toList) (by simpa using h3)).1 (o+j) _ (by simpa using h5 j b hj)⟩
theorem PtR.tail{W:World}{g o n c:Nat}{b:Nat}{q:List Nat}(h:PtR W (.slice (some ⟨g,o,none⟩) n c) (b::q)):n=q.length+1∧n≤c∧W.cell? ⟨g,o,none⟩=some (pvv b)∧g<W.heap.size∧PtR W (.slice (if c=1 then some ⟨g,o,none⟩ else some ⟨g,o+1,none⟩) q.length (c-1)) q:=by
 rcases h with ⟨h,-⟩|⟨g',o',c',cur,e,h1,h2,h3,h4,h5⟩
 ·cases h
 ·simp only[Value.slice.injEq,Option.some.injEq,Addr.mk.injEq,and_true]at e
  obtain⟨⟨rfl,rfl⟩,rfl,rfl⟩:=e
  rw[List.length_cons]at h1
  refine⟨List.length_cons,by rw[List.length_cons];exact h1,(cells_of (l:=cur.toList) (by simpa using h3)).1 o _ (by simpa using h5 0 b rfl),(Array.getElem?_eq_some_iff.1 h3).1,?_⟩
  by_cases e:c=1
  ·have:q=[]:=List.eq_nil_of_length_eq_zero (by omega)
   subst this
   rw[if_pos e]
   exact .inr ⟨g,o,c-1,cur,rfl,by simp,by omega,h3,by omega,fun j u hj=>by simp at hj⟩
  ·rw[if_neg e]
   refine .inr ⟨g,o+1,c-1,cur,rfl,by omega,by omega,h3,by omega,fun j u hj=>?_⟩
   rw[show o+1+j=o+(j+1) by omega]
   exact h5 (j+1) u hj
theorem setCellsP:∀(vs:List Value) (W:World) (g o:Nat) (cur:Array Value) (t:TypeId),W.heap[g]?=some (.cells cur t (0,0)) →
  ∃cur':Array Value,(W.setCells g o vs).heap[g]?=some (.cells cur' t (0,0))∧cur'.size=cur.size∧(∀j:Nat,cur'[j]?=if o≤j∧j<o+vs.length∧j<cur.size then vs[j-o]? else cur[j]?)∧W.grownBy (W.setCells g o vs) (some g)
 | [],W,g,o,cur,t,h=>⟨cur,h,rfl,fun j=>by rw[if_neg (by simp;omega)],World.grownBy.refl _ _⟩
 | v::r,W,g,o,cur,t,h=>by
  obtain⟨cur',h1,h2,h3,h4⟩:=setCellsP r (W.setCell ⟨g,o,none⟩ v) g (o+1) _ t (setCell_at h)
  refine⟨cur',h1,by rw[h2];simp,fun j=>?_,gb_trans (set_grown _ _ _ _) h4⟩
  rw[h3,List.length_cons,Array.size_setIfInBounds]
  by_cases e:j=o
  ·subst e
   rw[if_neg (by omega)]
   by_cases hs:j<cur.size
   ·rw[if_pos ⟨by omega,by omega,hs⟩,Array.getElem?_setIfInBounds_self_of_lt hs,Nat.sub_self];rfl
   ·rw[if_neg (by omega),Array.getElem?_eq_none (by simpa using hs),Array.getElem?_eq_none (by omega)]
  ·by_cases hj:o+1≤j∧j<o+1+r.length∧j<cur.size
   ·rw[if_pos hj,if_pos ⟨by omega,by omega,hj.2.2⟩,show j-o=(j-(o+1))+1 by omega,List.getElem?_cons_succ]
   ·rw[if_neg hj,if_neg (by omega),Array.getElem?_setIfInBounds_ne (by omega)]
theorem PtR.app{W:World}{v u:Value}{q r:List Nat}(h:PtR W v q)(hu:PtR W u r)(hl:q.length≤1000000)(hr:r.length≤1000000):∃ad c w4,(Builtin.append_ #[130,130] 130 #[v,u]).run Tryz.prog W = .ok (.slice ad (q.length+r.length) c) w4∧PtR w4 (.slice ad (q.length+r.length) c) (q++r)∧W.grownBy w4 v.ownBlock∧∀k,(Value.slice ad (q.length+r.length) c).ownBlock=some k→v.ownBlock=some k∨W.heap.size≤k:=by
 obtain⟨i0,hi0,hz0,hz1,hz2⟩:=info_parts infoPv
 have ofOwn:∀ {w4:World} {v4:Value},w4.ownsRow W.heap.size 131 1 v4 (q.length+r.length) ((q++r).map pvv)→∃ad c,v4 = .slice ad (q.length+r.length) c∧PtR w4 (.slice ad (q.length+r.length) c) (q++r)∧∀k,(Value.slice ad (q.length+r.length) c).ownBlock=some k→W.heap.size≤k:=by
  intro w4 v4 ho
  obtain⟨hlen,⟨rfl,h9⟩|⟨g,cap,cur,rfl,hb,hg,hcap,hm,hs,htk⟩⟩:=ho
  ·have e1:q.length=0:=by omega
   have e2:r.length=0:=by omega
   refine⟨none,0,by rw[e1,e2],?_,fun k hk=>(by cases hk)⟩
   rw[List.eq_nil_of_length_eq_zero e1,List.eq_nil_of_length_eq_zero e2]
   exact PtR.nil _
  ·refine⟨_,_,rfl,.inr ⟨g,0,cap,cur,by rw[List.length_append],by rw[List.length_append];exact hcap,hm,hg,by rw[hs];omega,fun j b hj=>?_⟩,fun k hk=>by cases hk;exact hb⟩
   rw[Nat.zero_add]
   have hj':((q++r).map pvv)[j]?=some (pvv b):=by rw[List.getElem?_map,hj];rfl
   rw[← htk,List.getElem?_take]at hj'
   split at hj'
   ·rwa[Array.getElem?_toList]at hj'
   ·cases hj'
 by_cases hun:u = .slice none 0 0
 ·skip
  have hre:r=[]:=by
   rcases hu with ⟨-,e⟩|⟨g,o,c,cur,e,-⟩
   ·exact e
   ·rw[hun]at e;cases e
  subst hun hre
  rcases h with ⟨rfl,rfl⟩|⟨g,o,c,cur,rfl,h1,h2,h3,h4,h5⟩
  ·refine⟨none,0,W,?_,.inl ⟨rfl,rfl⟩,World.grownBy.refl _ _,fun k hk=>(by cases hk)⟩
   simp[Builtin.append_,run_underlying Tryz.underlying130,sizeOf,typeInfo,hi0,Builtin.lenOf,Builtin.firstCells]
  ·refine⟨some ⟨g,o,none⟩,c,W,?_,.inr ⟨g,o,c,cur,by simp,by simpa using h1,h2,h3,h4,by simpa using h5⟩,World.grownBy.refl _ _,fun k hk=>.inl hk⟩
   simp[Builtin.append_,run_underlying Tryz.underlying130,sizeOf,typeInfo,hi0,Builtin.lenOf,Builtin.firstCells,h1,storeCells]
 ·rcases hu with ⟨e,-⟩|⟨gu,ou,cu,curu,rfl,u1,u2,u3,u4,u5⟩
  ·exact absurd e hun
  have hnews:∀j x,(r.map pvv)[j]?=some x→W.cell? ((⟨gu,ou,none⟩:Addr).add j)=some x:=fun j x hj=>by
   rw[Addr.add_lit]
   rw[List.getElem?_map,Option.map_eq_some_iff]at hj
   obtain⟨b,hb,rfl⟩:=hj
   exact(cells_of (l:=curu.toList) (by simpa using u3)).1 (ou+j) _ (by simpa using u5 j b hb)
  have h1c:∀x∈r.map pvv,x.oneCell'=true:=fun x hx=>by
   obtain⟨b,-,rfl⟩:=List.mem_map.1 hx
   rfl
  rcases h with ⟨rfl,rfl⟩|⟨g,o,c,cur,rfl,h1,h2,h3,h4,h5⟩
  ·obtain⟨v4,w4,hrun,ho4,hg4,-⟩:=run_append_own_at (P:=Tryz.prog) (w:=W) W.heap.size 130 130 131 i0 _ 1 8 Tryz.underlying130 hi0 hz0 hz1 hz2 rfl (by omega) (.slice none 0 0) 0 [] ⟨rfl,.inl ⟨rfl,rfl⟩⟩ ⟨gu,ou,none⟩ r.length cu (r.map pvv) (by simp) hnews h1c (by unfold maxLen;omega) (by omega) (Nat.le_refl _)
   obtain⟨ad',c',rfl,e5,e6⟩:=ofOwn (w4:=w4) (v4:=v4) (by simpa using ho4)
   exact⟨ad',c',w4,hrun,e5,hg4,fun k hk=>.inr (e6 k hk)⟩
  ·have hgl:=(Array.getElem?_eq_some_iff.1 h3).1
   have hold:∀j x,(q.map pvv)[j]?=some x→W.cell? ((⟨g,o,none⟩:Addr).add j)=some x:=fun j x hj=>by
    rw[Addr.add_lit]
    rw[List.getElem?_map,Option.map_eq_some_iff]at hj
    obtain⟨b,hb,rfl⟩:=hj
    exact(cells_of (l:=cur.toList) (by simpa using h3)).1 (o+j) _ (by simpa using h5 j b hb)
   by_cases hroom:q.length+r.length≤c
   ·have hr2:=run_append_room_cells (P:=Tryz.prog) (w:=W) 130 130 131 i0 Tryz.underlying130 hi0 g o q.length c ⟨gu,ou,none⟩ r.length cu (r.map pvv) (by rw[hz1];simp) hnews h1c hroom
     (fun j hj=>by
      have hj3:j<r.length:=by simpa using hj
      rw[hz1,(cells_of (l:=cur.toList) (by simpa using h3)).1 (o+q.length*1+j) cur[o+q.length*1+j] (by simp)]
      rfl)
     (fun j hj=>(cells_of (l:=cur.toList) (by simpa using h3)).2.1 _)
    rw[hz1,Nat.mul_one]at hr2
    obtain⟨cur',k1,k2,k3,k4⟩:=setCellsP (r.map pvv) W g (o+q.length) cur 131 h3
    refine⟨some ⟨g,o,none⟩,c,_,hr2,.inr ⟨g,o,c,cur',by rw[List.length_append],by rw[List.length_append];exact hroom,h2,k1,by rw[k2];exact h4,fun j b hj=>?_⟩,k4,fun k hk=>.inl hk⟩
    rw[k3]
    by_cases hjq:j<q.length
    ·rw[List.getElem?_append_left hjq]at hj
     rw[if_neg (by omega)]
     exact h5 j b hj
    ·rw[List.getElem?_append_right (by omega)]at hj
     have hjr:=(List.getElem?_eq_some_iff.1 hj).1
     rw[if_pos ⟨by omega,by simp;omega,by omega⟩,show o+j-(o+q.length)=j-q.length by omega,List.getElem?_map,hj]
     rfl
   ·obtain⟨v4,w4,e1,e2,e3⟩:=run_append_arg_grows (P:=Tryz.prog) (w:=W) 130 130 131 i0 _ 1 8 Tryz.underlying130 hi0 hz0 hz1 hz2 rfl (by omega) ⟨g,o,none⟩ q.length c (q.map pvv) (by simp) hold ⟨gu,ou,none⟩ r.length cu (r.map pvv) (by simp) hnews (by omega) (by unfold maxLen;omega) (by omega)
    obtain⟨ad',c',rfl,e5,e6⟩:=ofOwn (w4:=w4) (v4:=v4) (by simpa using e2)
    exact⟨ad',c',w4,e1,e5,gb_none e3 _,fun k hk=>.inr (e6 k hk)⟩
def Th.arr(x:Th):Array Value:=#[.int .i64 (x.pt:Int),.int .i64 (x.cm:Int),.int .i64 x.si,.int .i64 x.lf]
def FarO(o:Obj):Prop:=∀c t f,o = .cells c t f→t≠131∧t≠133∧t≠3
def updT(T:Nat→Th)(b:Nat)(x:Th):Nat→Th:=fun k=>if k=b then x else T k
theorem updT_self(T:Nat→Th)(b:Nat)(x:Th):updT T b x b=x:=if_pos rfl
theorem updT_ne{T:Nat→Th}{b k:Nat}{x:Th}(h:k≠b):updT T b x k=T k:=if_neg h
theorem updT_map{T:Nat→Th}{b:Nat}{x:Th}{q:List Nat}(h:b ∉ q):q.map (updT T b x)=q.map T:=List.map_congr_left (fun _ hk=>updT_ne (fun e=>h (e ▸ hk)))
structure DW (w W:World) (R:List (Value × List Nat)) (T:Nat→Th) (B:List Nat) (ov:List Value) (out:List (List Int)) (F:List (Nat × Obj)):Prop where
 bel:Below w.heap.size w W
 rows:∀r∈R,PtR W r.1 r.2
 apt:R.Pairwise (fun a b=>Apt a.1 b.1)
 th:∀b∈B,W.heap[b]?=some (.cells (Th.arr (T b)) 133 (0,0))
 outs:∀(i:Nat) (v:Value),ov[i]?=some v→EnR W v (out.getD i [])
 oap:ov.Pairwise Apt
 fr:∀p∈F,W.heap[p.1]?=some p.2
 fnd:(F.map Prod.fst).Nodup
 far:∀p∈F,FarO p.2
 lowR:∀r∈R,∀g,r.1.ownBlock=some g→w.heap.size≤g
 lowB:∀b∈B,w.heap.size≤b
 lowO:∀v∈ov,∀g,v.ownBlock=some g→w.heap.size≤g
 lowF:∀p∈F,w.heap.size≤p.1
section
variable {w W W':World} {R:List (Value × List Nat)} {T:Nat→Th} {B:List Nat} {ov:List Value} {out:List (List Int)} {F:List (Nat × Obj)}
theorem EnR.ty2{v:Value}{r:List Int}(h:EnR W v r){g:Nat}(hg:v.ownBlock=some g):∃cur,W.heap[g]?=some (.cells cur 3 (0,0)):=by
 obtain⟨g',c,ex,rfl,-,h3⟩:=h
 cases hg
 exact⟨_,h3⟩
theorem DW.keep(h:DW w W R T B ov out F)(hg:W.grownBy W' none):DW w W' R T B ov out F:=by
 have k:∀ {a:Nat} {o:Obj},W.heap[a]?=some o→W'.heap[a]?=some o:=fun {a o} ha=>(hg.block a (heap_lt ha) (by simp)).trans ha
 have k':∀ {a:Nat} {o:Obj},W.heap[a]?=some o→W'.heap[a]?=W.heap[a]?:=fun ha=>(k ha).trans ha.symm
 refine⟨?_,fun r hr=>(h.rows r hr).keep (fun g hg'=>?_),h.apt,fun b hb=>k (h.th b hb),fun i v hv=>(h.outs i v hv).keep (fun g hg'=>?_),h.oap,fun p hp=>k (h.fr p hp),h.fnd,h.far,h.lowR,h.lowB,h.lowO,h.lowF⟩
 ·exact⟨hg.os.trans h.bel.os,hg.tape.trans h.bel.tape,hg.output.trans h.bel.output,Nat.le_trans h.bel.size hg.size,fun a ha=>(hg.block a (Nat.lt_of_lt_of_le ha h.bel.size) (by simp)).trans (h.bel.block a ha)⟩
 ·obtain⟨c,hc⟩:=(h.rows r hr).ty hg'
  exact k' hc
 ·obtain⟨c,hc⟩:=(h.outs i v hv).ty2 hg'
  exact k' hc
theorem DW.grow(h:DW w W R T B ov out F)(hb:Below W.heap.size W W'):DW w W' R T B ov out F:=h.keep (gb_below hb none)
theorem DW.alloc(h:DW w W R T B ov out F)(o:Obj):DW w (W.alloc o) R T B ov out F:=h.grow (below_new _ _)
theorem bel_one{g:Nat}(h:Below w.heap.size w W)(hg:W.grownBy W' (some g))(hl:w.heap.size≤g):Below w.heap.size w W' :=
 ⟨hg.os.trans h.os,hg.tape.trans h.tape,hg.output.trans h.output,Nat.le_trans h.size hg.size,fun a ha=>(hg.block a (Nat.lt_of_lt_of_le ha h.size) (fun e=>by cases e;omega)).trans (h.block a ha)⟩
theorem DW.setF(h:DW w W R T B ov out F)(i:Nat){a:Nat}{o o':Obj}(hi:F[i]?=some (a,o))(hg:W.grownBy W' (some a))(ho:W'.heap[a]?=some o')(hf:FarO o'):DW w W' R T B ov out (F.set i (a,o')):=by
 have hm:=List.mem_of_getElem? hi
 have ha:=h.fr _ hm
 have hfar:=h.far _ hm
 have k:∀ {q:Nat} {x:Obj},q≠a→W.heap[q]?=some x→W'.heap[q]?=some x:=fun {q x} hq hx=>(hg.block q (heap_lt hx) (fun e=>hq (by cases e;rfl))).trans hx
 have kt:∀ {q:Nat} {c:Array Value} {t:TypeId},(t=131∨t=133∨t=3)→W.heap[q]?=some (.cells c t (0,0))→W'.heap[q]?=some (.cells c t (0,0)):=fun {q c t} ht hq=>k (fun e=>by
  subst e
  rw[ha]at hq
  have h9:=hfar _ _ _ (Option.some.inj hq)
  rcases ht with rfl|rfl|rfl
  ·exact h9.1 rfl
  ·exact h9.2.1 rfl
  ·exact h9.2.2 rfl) hq
 have hkeys:(F.set i (a,o')).map Prod.fst=F.map Prod.fst:=by
  rw[List.map_set]
  refine List.ext_getElem? (fun j=>?_)
  by_cases e:i=j
  ·subst e
   have hl:=(List.getElem?_eq_some_iff.1 hi).1
   rw[List.getElem?_set_self (by simpa using hl),List.getElem?_map,hi]
   rfl
  ·rw[List.getElem?_set_ne e]
 refine⟨bel_one h.bel hg (h.lowF _ hm),fun r hr=>(h.rows r hr).keep (fun g hg'=>?_),h.apt,fun b hb=>kt (.inr (.inl rfl)) (h.th b hb),fun j v hv=>(h.outs j v hv).keep (fun g hg'=>?_),h.oap,fun p hp=>?_,by rw[hkeys];exact h.fnd,fun p hp=>?_,h.lowR,h.lowB,h.lowO,fun p hp=>?_⟩
 ·obtain⟨c,hc⟩:=(h.rows r hr).ty hg'
  exact(kt (.inl rfl) hc).trans hc.symm
 ·obtain⟨c,hc⟩:=(h.outs j v hv).ty2 hg'
  exact(kt (.inr (.inr rfl)) hc).trans hc.symm
 ·obtain⟨j,hj⟩:=List.getElem?_of_mem hp
  rcases set_get hj with ⟨rfl,rfl⟩|⟨hne,hj⟩
  ·exact ho
  ·refine k (fun e=>hne ?_) (h.fr p (List.mem_of_getElem? hj))
   have h1:(F.map Prod.fst)[j]?=some a:=by rw[List.getElem?_map,hj];exact congrArg some e
   have h2:(F.map Prod.fst)[i]?=some a:=by rw[List.getElem?_map,hi];rfl
   exact nodup_at h.fnd h1 h2
 ·obtain⟨j,hj⟩:=List.getElem?_of_mem hp
  rcases set_get hj with ⟨rfl,rfl⟩|⟨-,hj⟩
  ·exact hf
  ·exact h.far p (List.mem_of_getElem? hj)
 ·obtain⟨j,hj⟩:=List.getElem?_of_mem hp
  rcases set_get hj with ⟨rfl,rfl⟩|⟨-,hj⟩
  ·exact h.lowF (a,o) hm
  ·exact h.lowF p (List.mem_of_getElem? hj)
theorem DW.setT(h:DW w W R T B ov out F){b:Nat}(hb:b∈B)(x:Th)(hg:W.grownBy W' (some b))(ho:W'.heap[b]?=some (.cells (Th.arr x) 133 (0,0))):DW w W' R (updT T b x) B ov out F:=by
 have ha:=h.th b hb
 have k:∀ {q:Nat} {x:Obj},q≠b→W.heap[q]?=some x→W'.heap[q]?=some x:=fun {q x} hq hx=>(hg.block q (heap_lt hx) (fun e=>hq (by cases e;rfl))).trans hx
 refine⟨bel_one h.bel hg (h.lowB b hb),fun r hr=>(h.rows r hr).keep (fun g hg'=>?_),h.apt,fun q hq=>?_,fun j v hv=>(h.outs j v hv).keep (fun g hg'=>?_),h.oap,fun p hp=>?_,h.fnd,h.far,h.lowR,h.lowB,h.lowO,h.lowF⟩
 ·obtain⟨c,hc⟩:=(h.rows r hr).ty hg'
  exact(k (ty_ne hc ha (by decide)) hc).trans hc.symm
 ·by_cases e:q=b
  ·subst e
   rw[updT_self]
   exact ho
  ·rw[updT_ne e]
   exact k e (h.th q hq)
 ·obtain⟨c,hc⟩:=(h.outs j v hv).ty2 hg'
  exact(k (ty_ne hc ha (by decide)) hc).trans hc.symm
 ·refine k (fun e=>?_) (h.fr p hp)
  have h1:=h.fr p hp
  rw[e,ha]at h1
  exact(h.far p hp _ _ _ (Option.some.inj h1).symm).2.1 rfl
theorem DW.addB(h:DW w W R T B ov out F){b:Nat}(hb:b ∉ B)(hl:w.heap.size≤b)(x:Th)(ho:W.heap[b]?=some (.cells (Th.arr x) 133 (0,0))):DW w W R (updT T b x) (b::B) ov out F:=by
 refine⟨h.bel,h.rows,h.apt,fun q hq=>?_,h.outs,h.oap,h.fr,h.fnd,h.far,h.lowR,fun q hq=>?_,h.lowO,h.lowF⟩
 ·rcases List.mem_cons.1 hq with rfl|hq
  ·rw[updT_self];exact ho
  ·rw[updT_ne (fun e=>hb (by rw[← e];exact hq))]
   exact h.th q hq
 ·rcases List.mem_cons.1 hq with rfl|hq
  ·exact hl
  ·exact h.lowB q hq
theorem DW.fresh(h:DW w W R T B ov out F){b:Nat}(hb:W.heap.size≤b):b ∉ B:=fun hm=>by
 have:=heap_lt (h.th b hm)
 omega
theorem DW.row(h:DW w W R T B ov out F)(i:Nat){v v':Value}{q q':List Nat}(hi:R[i]?=some (v,q))(hg:W.grownBy W' v.ownBlock)(hp:PtR W' v' q')(hv:∀k,v'.ownBlock=some k→v.ownBlock=some k∨W.heap.size≤k):DW w W' (R.set i (v',q')) T B ov out F:=by
 have hm:=List.mem_of_getElem? hi
 have hold:=h.rows _ hm
 have k:∀ {a:Nat} {c:Array Value} {t:TypeId},t≠131→W.heap[a]?=some (.cells c t (0,0))→W'.heap[a]?=some (.cells c t (0,0)):=fun {a c t} ht ha=>by
  refine(hg.block a (heap_lt ha) fun e=>?_).trans ha
  obtain⟨c',hc'⟩:=hold.ty e.symm
  exact ty_ne ha hc' ht rfl
 have kk:∀(j:Nat) (r:Value × List Nat),j≠i→R[j]?=some r→PtR W' r.1 r.2∧Apt v' r.1∧Apt r.1 v':=fun j r hj hr=>by
  have hrm:=List.mem_of_getElem? hr
  have hap:Apt v r.1∧Apt r.1 v:=by
   rcases Nat.lt_or_ge j i with g|g
   ·have h9:=pw_get h.apt g hr hi
    exact⟨fun x hx hy=>h9 x hy hx,h9⟩
   ·have h9:=pw_get h.apt (show i<j by omega) hi hr
    exact⟨h9,fun x hx hy=>h9 x hy hx⟩
  refine⟨(h.rows r hrm).keep (fun g hg'=>?_),fun x hx hy=>?_,fun x hx hy=>?_⟩
  ·obtain⟨c,hc⟩:=(h.rows r hrm).ty hg'
   exact hg.block g (heap_lt hc) (fun e=>hap.1 g e.symm hg')
  ·rcases hv x hx with g|g
   ·exact hap.1 x g hy
   ·obtain⟨c,hc⟩:=(h.rows r hrm).ty hy
    have:=heap_lt hc
    omega
  ·rcases hv x hy with g|g
   ·exact hap.1 x g hx
   ·obtain⟨c,hc⟩:=(h.rows r hrm).ty hx
    have:=heap_lt hc
    omega
 refine⟨?_,fun r hr=>?_,?_,fun b hb=>k (by decide) (h.th b hb),fun j u hu=>(h.outs j u hu).keep (fun g hg'=>?_),h.oap,fun p hp=>?_,h.fnd,h.far,fun r hr g hg'=>?_,h.lowB,h.lowO,h.lowF⟩
 ·refine⟨hg.os.trans h.bel.os,hg.tape.trans h.bel.tape,hg.output.trans h.bel.output,Nat.le_trans h.bel.size hg.size,fun a ha=>(hg.block a (Nat.lt_of_lt_of_le ha h.bel.size) fun e=>?_).trans (h.bel.block a ha)⟩
  have:=h.lowR _ hm a e.symm
  omega
 ·obtain⟨j,hj⟩:=List.getElem?_of_mem hr
  rcases set_get hj with ⟨rfl,rfl⟩|⟨hne,hj⟩
  ·exact hp
  ·exact(kk j r hne hj).1
 ·rw[List.pairwise_iff_getElem]
  intro a b ha hb hab
  have ga:(R.set i (v',q'))[a]?=some (R.set i (v',q'))[a]:=List.getElem?_eq_getElem ha
  have gb:(R.set i (v',q'))[b]?=some (R.set i (v',q'))[b]:=List.getElem?_eq_getElem hb
  rcases set_get ga with ⟨e1,e2⟩|⟨n1,g1⟩
  ·rcases set_get gb with ⟨e3,-⟩|⟨n2,g2⟩
   ·omega
   ·rw[e2]
    exact(kk b _ n2 g2).2.1
  ·rcases set_get gb with ⟨e3,e4⟩|⟨n2,g2⟩
   ·rw[e4]
    exact(kk a _ n1 g1).2.2
   ·exact pw_get h.apt hab g1 g2
 ·obtain⟨c,hc⟩:=(h.outs j u hu).ty2 hg'
  exact(k (by decide) hc).trans hc.symm
 ·refine(hg.block p.1 (heap_lt (h.fr p hp)) fun e=>?_).trans (h.fr p hp)
  obtain⟨c',hc'⟩:=hold.ty e.symm
  have h1:=h.fr p hp
  rw[hc']at h1
  exact(h.far p hp _ _ _ (Option.some.inj h1).symm).1 rfl
 ·obtain⟨j,hj⟩:=List.getElem?_of_mem hr
  rcases set_get hj with ⟨rfl,rfl⟩|⟨-,hj⟩
  ·rcases hv g hg' with e|e
   ·exact h.lowR _ hm g e
   ·exact Nat.le_trans h.bel.size e
  ·exact h.lowR r (List.mem_of_getElem? hj) g hg'
theorem DW.sub(h:DW w W R T B ov out F){R':List (Value × List Nat)}(hs:R'.Sublist R):DW w W R' T B ov out F :=
 ⟨h.bel,fun r hr=>h.rows r (hs.mem hr),h.apt.sublist hs,h.th,h.outs,h.oap,h.fr,h.fnd,h.far,fun r hr=>h.lowR r (hs.mem hr),h.lowB,h.lowO,h.lowF⟩
theorem DW.nils(h:DW w W R T B ov out F):DW w W (R++[(.slice none 0 0,[]),(.slice none 0 0,[])]) T B ov out F:=by
 have hn:∀r ∈ [((.slice none 0 0:Value),([]:List Nat)),(.slice none 0 0,[])],r=(.slice none 0 0,[]):=fun r hr=>by simpa using hr
 refine⟨h.bel,fun r hr=>?_,?_,h.th,h.outs,h.oap,h.fr,h.fnd,h.far,fun r hr g hg=>?_,h.lowB,h.lowO,h.lowF⟩
 ·rcases List.mem_append.1 hr with hr|hr
  ·exact h.rows r hr
  ·rw[hn r hr];exact PtR.nil _
 ·rw[List.pairwise_append]
  refine⟨h.apt,?_,fun a _ b hb g _ e=>?_⟩
  ·exact List.pairwise_cons.2 ⟨fun a _ g hg=>(by cases hg),List.pairwise_singleton _ _⟩
  ·rw[hn b hb]at e;cases e
 ·rcases List.mem_append.1 hr with hr|hr
  ·exact h.lowR r hr g hg
  ·rw[hn r hr]at hg;cases hg
theorem DW.addF(h:DW w W R T B ov out F){a:Nat}{o:Obj}(ha:W.heap[a]?=some o)(hn:a ∉ F.map Prod.fst)(hl:w.heap.size≤a)(hf:FarO o):DW w W R T B ov out (F++[(a,o)]):=by
 refine⟨h.bel,h.rows,h.apt,h.th,h.outs,h.oap,fun p hp=>?_,?_,fun p hp=>?_,h.lowR,h.lowB,h.lowO,fun p hp=>?_⟩
 ·rcases List.mem_append.1 hp with hp|hp
  ·exact h.fr p hp
  ·rw[List.mem_singleton.1 hp];exact ha
 ·rw[List.map_append,List.nodup_append]
  refine⟨h.fnd,by simp,fun x hx y hy e=>?_⟩
  have:y=a:=by simpa using hy
  exact hn (by rw[← this,← e];exact hx)
 ·rcases List.mem_append.1 hp with hp|hp
  ·exact h.far p hp
  ·rw[List.mem_singleton.1 hp];exact hf
 ·rcases List.mem_append.1 hp with hp|hp
  ·exact h.lowF p hp
  ·rw[List.mem_singleton.1 hp];exact hl
theorem DW.noF(h:DW w W R T B ov out F){a:Nat}(ha:W.heap.size≤a):a ∉ F.map Prod.fst:=fun hm=>by
 obtain⟨p,hp,rfl⟩:=List.mem_map.1 hm
 have:=heap_lt (h.fr p hp)
 omega
theorem DW.subF(h:DW w W R T B ov out F){F':List (Nat × Obj)}(hs:F'.Sublist F):DW w W R T B ov out F' :=
 ⟨h.bel,h.rows,h.apt,h.th,h.outs,h.oap,fun p hp=>h.fr p (hs.mem hp),h.fnd.sublist (hs.map _),fun p hp=>h.far p (hs.mem hp),h.lowR,h.lowB,h.lowO,fun p hp=>h.lowF p (hs.mem hp)⟩
theorem DW.setE(h:DW w W R T B ov out F){cm g c k:Nat}(hv:ov[cm]?=some (.slice (some ⟨g,0,none⟩) k c))(hm:cm<out.length)(i:Nat)(z:Int)(hi:i<(out.getD cm []).length):DW w (W.setCell ⟨g,i,none⟩ (.int .i64 z)) R T B ov (out.set cm ((out.getD cm []).set i z)) F:=by
 obtain⟨g',c',ex,he,hc,hh⟩:=h.outs cm _ hv
 cases he
 have kk:∀ {a:Nat} {o:Obj},a≠g→W.heap[a]?=some o→(W.setCell ⟨g,i,none⟩ (.int .i64 z)).heap[a]?=some o:=fun {a o} ha h9=>by
  rw[Below.heap_setCell _ _ _ _ ha];exact h9
 have hmem:(Value.slice (some ⟨g,0,none⟩) (out.getD cm []).length c)∈ov:=List.mem_of_getElem? hv
 refine⟨h.bel.setCell (show w.heap.size≤g from h.lowO _ hmem g rfl) _,fun r hr=>(h.rows r hr).keep (fun q hq=>?_),h.apt,fun b hb=>kk (ty_ne (h.th b hb) hh (by decide)) (h.th b hb),fun j u hu=>?_,h.oap,fun p hp=>kk (fun e=>?_) (h.fr p hp),h.fnd,h.far,h.lowR,h.lowB,h.lowO,h.lowF⟩
 ·obtain⟨c,hc⟩:=(h.rows r hr).ty hq
  exact Below.heap_setCell _ _ _ _ (ty_ne hc hh (by decide))
 ·by_cases e:j=cm
  ·subst e
   rw[hv]at hu
   cases hu
   rw[getD_set_self hm]
   refine⟨g,c,ex,by rw[List.length_set],by rw[List.length_set];exact hc,?_⟩
   rw[setCell_at hh]
   congr 2
   rw[List.map_set,← List.set_append_left _ _ (by simpa using hi)]
   simp
  ·rw[getD_set_other (fun e2=>e e2.symm)]
   refine(h.outs j u hu).keep (fun q hq=>Below.heap_setCell _ _ _ _ (fun e2=>?_))
   have e3:q=g:=e2
   subst e3
   rcases Nat.lt_or_ge j cm with g1|g1
   ·exact pw_get h.oap g1 hu hv q hq rfl
   ·exact pw_get h.oap (show cm<j by omega) hv hu q rfl hq
 ·have h1:=h.fr p hp
  rw[e,hh]at h1
  exact(h.far p hp _ _ _ (Option.some.inj h1).symm).2.2 rfl
end
end Go.Proofs.YtccoobcggbbcialGreatDoor
