import Derived.Test.YtccoobcggbbcialGreatDoorGHX2
import Derived.Test.YtccoobcggbbcialGreatDoorProg
import Derived.Shelf.Bits.Mul64
import Derived.Ground.NamesProg
import Derived.Test.YtccoobcggbbcialGreatDoorGHG0
import Derived.Laws.IdiomCopy
import Derived.Shelf.Spec.SlicesInsert
namespace Go.Proofs.YtccoobcggbbcialGreatDoor
open Go.ChangeShapes Go.WideShapes Go.ChangeAt Go.RowKit
theorem tqGPR{P:Program}{md:Region.Mode}{ops:Array Oper}{Q:Exit→Act→World→Prop}{S:World→Prop}{i n:Nat}{oi:Oper}{v:Value}{fuel:Nat}{listed:Array Bool}{l:List Value}{ds:List Deferred}{w:World}
  (hy:∀w,S w→(execOp (Act.eval ⟨l.toArray,ds⟩) oi).run P w = .ok (.value v) w) (h:wpAnyH P md ops Q S fuel (listed.setIfInBounds i true) ⟨(l.set n v).toArray,ds⟩ w)
  (hi:ops[i]?=some oi:=by rfl) (hd:oi.dst=some n:=by rfl) (hs:(Region.noSelect ops && Region.free md ops listed i && (Region.ready md ops listed).contains i)=true:=by kernel_rfl)
  (hQ:∀c a w,Q (.panic c) (a.put oi.dst v) w→Q (.panic c) a w:=by exact fun _ _ _ h=>h) (hg:Region.wanted oi (yielded ops l.toArray)=true:=by rfl) (hS:S w:=by assumption):wpAnyH P md ops Q S (fuel+1) listed ⟨l.toArray,ds⟩ w:=by
 simp only[Bool.and_eq_true]at hs
 exact take_at hi hd hs.1.1 hs.1.2 hs.2 hQ (.inl ⟨hg,hy⟩) hS h
end Go.Proofs.YtccoobcggbbcialGreatDoor
namespace Go.Proofs.YtccoobcggbbcialGreatDoor
open Go.ChangeShapes Go.WideShapes Go.ChangeAt Go.RowKit
theorem negC_any(W:World)(z:Int):Calls Tryz.prog 93 #[.int .i64 z] W fun r w'=>r = .returned (.bool (decide (z<0)))∧w'=W:=by
 go_enter Tryz.func93,Tryz.ntmps93
 go_wp2_with fail
 go_ret
 exact⟨rfl,rfl⟩
def firstNeg:List Int→Nat→Int
 | [],_=>-1
 | z::r,k=>if z<0 then k else firstNeg r (k+1)
theorem firstNeg_ge:∀(tk:List Int) (k:Nat),(0≤firstNeg tk k↔∃z∈tk,z<0)
 | [],k=>by simp[firstNeg]
 | z::r,k=>by
  unfold firstNeg
  by_cases h:z<0
  ·rw[if_pos h]
   exact⟨fun _=>⟨z,List.mem_cons_self,h⟩,fun _=>by omega⟩
  ·rw[if_neg h,firstNeg_ge r (k+1)]
   constructor
   ·rintro⟨y,h1,h2⟩;exact⟨y,List.mem_cons_of_mem _ h1,h2⟩
   ·rintro⟨y,h1,h2⟩
    rcases List.mem_cons.1 h1 with rfl|h1
    ·exact absurd h2 h
    ·exact⟨y,h1,h2⟩
set_option maxRecDepth 20000 in
set_option maxHeartbeats 4000000 in
theorem indexNeg_any(W:World)(tk:List Int)(v:Value)(h:RowSl nuV W tk v)(hl:tk.length≤1000000):Calls Tryz.prog 148 #[v,.func (Fn.func 93) #[] #[]] W fun r w'=>r = .returned (.int .i64 (firstNeg tk 0))∧w'=W:=by
 obtain⟨ad,c,rfl,-,hcap,hrow⟩:=h
 have HR:Hid (_):=hrow
 obtain⟨z,hz⟩:∃z,firstNeg tk 0=z:=⟨_,rfl⟩
 have HZ:Hid (firstNeg tk 0=z):=hz
 rw[hz]
 clear hrow hz
 go_enter Tryz.func148,Tryz.ntmps148
 go_wp2_with fail
 go_loopw [8] (fun iv wr=>∃k:Nat,k≤tk.length∧iv = .int .i64 (k:Int)∧wr=W∧Hid (firstNeg (tk.drop k) k=z)) (fun iv _=>tk.length-(intOf iv).toNat)
 case atStart=>exact⟨0,Nat.zero_le _,rfl,rfl,HZ⟩
 case round =>
  obtain⟨k,hk,rfl,rfl,HK⟩:=hrel
  by_cases hkl:k<tk.length
  ·obtain⟨x,hx,hd⟩:=drop_at hkl
   rcases HR.out with h9|⟨b,o,rfl,hrow⟩
   ·rw[h9]at hkl;simp at hkl
   have c0:=nu_at hrow hx
   have hki:(k:Int)<(tk.length:Int):=by omega
   have hkz:=HK.out
   rw[hd]at hkz
   unfold firstNeg at hkz
   have HKZ:Hid ((if x<0 then ((k:Nat):Int) else firstNeg (tk.drop (k+1)) (k+1))=z):=hkz
   have HC:=negC_any wr x
   clear hx hd hkz HK hrow
   by_cases h0:x<0
   ·have HN:Hid (((k:Nat):Int)=z):=by
     have h9:=HKZ.out
     rw[if_pos h0]at h9
     exact h9
    rw[decide_eq_true h0]at HC
    clear HKZ h0
    go_wp2_with (go_at_call 93;refine HC.mono ?_;rintro r w5 ⟨rfl,hw5⟩;have hw6:=hw5.symm;subst hw6)
    go_ret
    exact⟨by rw[← HN.out];rfl,rfl⟩
   ·have HN:Hid (firstNeg (tk.drop (k+1)) (k+1)=z):=by
     have h9:=HKZ.out
     rw[if_neg h0]at h9
     exact h9
    rw[decide_eq_false h0]at HC
    clear HKZ h0
    go_wp2_with (go_at_call 93;refine HC.mono ?_;rintro r w5 ⟨rfl,hw5⟩;have hw6:=hw5.symm;subst hw6)
    exact⟨⟨k+1,by omega,by simp,by trivial,HN⟩,by simp[intOf];omega⟩
  ·have hke:k=tk.length:=by omega
   subst hke
   have hki:¬ ((tk.length:Nat):Int)<(tk.length:Int):=by omega
   have HN:Hid (z=-1):=by
    have h9:=HK.out
    rw[List.drop_of_length_le (Nat.le_refl _)]at h9
    exact h9.symm
   go_wp2_with fail
   go_ret
   exact⟨by rw[HN.out];rfl,rfl⟩
theorem anyNeg_any(W:World)(tk:List Int)(v:Value)(h:RowSl nuV W tk v)(hl:tk.length≤1000000):Calls Tryz.prog 92 #[v,.func (Fn.func 93) #[] #[]] W fun r w'=>r = .returned (.bool (decide (0≤firstNeg tk 0)))∧w'=W:=by
 have HC:=indexNeg_any W tk v h hl
 generalize firstNeg tk 0=z at *
 clear h
 go_enter Tryz.func92,Tryz.ntmps92
 go_wp2_with (go_at_call 148;refine HC.mono ?_;rintro r w5 ⟨rfl,hw5⟩;have hw6:=hw5.symm;subst hw6)
 go_ret
 exact⟨rfl,rfl⟩
def chkC(l:List Pa):List Co→Nat→Int × Int
 | [],_=>(0,0)
 | c::r,i=>if within c.k 0 ((l.length:Int)-1)=false∨(l.getD c.k.toNat paZ).fr≠-1 then (4,i) else if within c.a 0 20000=false then (3,i) else chkC l r (i+1)
def chkPl(l:List Pa)(cs:List Co)(tk:List Int)(n:Int):Int × Int :=
 if (chkP l).1≠0 then chkP l else if 4000<cs.length then (2,0) else if within n 0 20000=false∨0≤firstNeg tk 0 then (3,0) else chkC l cs 0
theorem checkPlay_ends{w:World}{g:Nat}{c k:Value}{a:Act}(h:w.heap[g]?=some (.cells #[c,k] 33 (0,0)))(h3:a.tmps[8]?.getD undef = .pointer (some ⟨g,0,none⟩)) :
  (results Tryz.f53 a.tmps).run Tryz.prog w = .ok (.agg #[c,k]) w:=by
 obtain⟨c1,f1,l1⟩:=cells_of (l:=[_,_]) h
 have c10:=c1 0 _ rfl
 have c11:=c1 1 _ rfl
 simp[results,Tryz.results53,go_sem,h3,c10,c11]
set_option maxRecDepth 20000 in
set_option maxHeartbeats 8000000 in
theorem checkPlay_any(w:World)(l:List Pa)(cs:List Co)(tk:List Int)(n:Int)(pv cv tv:Value)(hp:RowSl Pa.vals w l pv)(hc:RowSl Co.vals w cs cv)(ht:RowSl nuV w tk tv)(hcl:cs.length≤1000000)(htl:tk.length≤1000000):Calls Tryz.prog 53 #[pv,cv,tv,.int .i64 n] w fun r w'=>r = .returned (.agg #[.int .i64 (chkPl l cs tk n).1,.int .i64 (chkPl l cs tk n).2])∧Below w.heap.size w w':=by
 have HC:=CheckC_any (w.alloc (.cells #[.int .i64 0,.int .i64 0] 33)) l pv (hp.below (below_new _ _))
 obtain⟨z1,z2,hz⟩:∃z1 z2,chkP l=(z1,z2):=⟨_,_,rfl⟩
 have HZ:Hid (chkP l=(z1,z2)):=hz
 rw[hz]at HC
 dsimp only at HC
 obtain⟨a,ha⟩:∃a,chkPl l cs tk n=a:=⟨_,rfl⟩
 have HA:Hid (chkPl l cs tk n=a):=ha
 rw[ha]
 have HT:Hid (∀W,Below w.heap.size w W→Calls Tryz.prog 92 #[tv,.func (Fn.func 93) #[] #[]] W fun r w'=>r = .returned (.bool (decide (0≤firstNeg tk 0)))∧w'=W):=fun W hb=>anyNeg_any W tk tv (ht.below hb) htl
 have HV:Hid (RowSl Pa.vals w l pv):=hp
 obtain⟨ad,c,rfl,-,hcap,hrow⟩:=hc
 have HCR:Hid (cs=[]∨∃b o,ad=some ⟨b,o,none⟩∧∀q u,(cs.flatMap Co.vals)[q]?=some u→w.cell? ⟨b,o+q,none⟩=some u):=hrow
 obtain⟨pad,pc,rfl⟩:=hp.len
 obtain⟨tad,tc,rfl⟩:=ht.len
 have hF:Hid (FB w (w.alloc (.cells #[.int .i64 0,.int .i64 0] 33)) w.heap.size):=FB.start w
 clear hp ht hz ha hrow
 go_enter Tryz.func53,Tryz.ntmps53
 go_upto_region 2 with (go_at_call 86;refine HC.mono ?_;rintro r w1 ⟨rfl,hb1⟩;have H1:Hid (FB w (w1.alloc (.cells #[.int .i64 z1,.int .i64 z2] 33)) w.heap.size):=(hF.out.grow hb1).grow (below_new _ _);have hl1:w.heap.size<w1.heap.size:=(hF.out.grow hb1).lt;clear hb1 HC)
 obtain⟨fs,-,fl⟩:=cells_of (l:=[_,_]) (heap_alloc_new w1 (.cells #[.int .i64 z1,.int .i64 z2] 33))
 have g0:=fs 0 _ rfl
 have g1:=fs 1 _ rfl
 clear fs hF
 generalize w1.alloc (.cells #[.int .i64 z1,.int .i64 z2] 33)=w2 at *
 generalize w1.heap.size=gf at *
 obtain⟨q0,q1,qf0,qf1,ql⟩:=H1.out.res2
 by_cases h0:z1=0
 rotate_left 1
 ·have hz1:(z1 != 0)=true:=by simpa using h0
  have HN:Hid (a=(z1,z2)):=(by rw[← HA.out];unfold chkPl;rw[if_pos (by rw[HZ.out];exact h0),HZ.out]:a=(z1,z2))
  clear h0
  go_wp2_with fail
  refine bodyPost_ret (checkPlay_ends (g:=w.heap.size) (c:=.int .i64 z1) (k:=.int .i64 z2) (set_two H1.out.res) rfl) rfl ?_
  rw[HN.out]
  exact⟨rfl,H1.out.set _ _⟩
 subst h0
 have HZ0:Hid (¬ (chkP l).1≠0):=(by rw[HZ.out];simp:¬ (chkP l).1≠0)
 by_cases h4:4000<cs.length
 ·have HN:Hid (a=(2,0)):=(by rw[← HA.out];unfold chkPl;rw[if_neg HZ0.out,if_pos h4]:a=(2,0))
  have h4i:(4000:Int)<(cs.length:Int):=by omega
  go_wp2_with fail
  refine bodyPost_ret (checkPlay_ends (g:=w.heap.size) (c:=.int .i64 2) (k:=.int .i64 0) (set_two H1.out.res) rfl) rfl ?_
  rw[HN.out]
  exact⟨rfl,H1.out.set _ _⟩
 have h4i:¬ (4000:Int)<(cs.length:Int):=by omega
 rcases hw:within n 0 20000 with _|_
 ·have HN:Hid (a=(3,0)):=(by rw[← HA.out];unfold chkPl;rw[if_neg HZ0.out,if_neg h4,if_pos (.inl hw)]:a=(3,0))
  go_wp2_with (go_at_call 91;refine(withinC_any _ _ _ _).mono ?_;rintro r w3 ⟨rfl,hw3⟩;have hw4:=hw3.symm;subst hw4;rw[hw])
  refine bodyPost_ret (checkPlay_ends (g:=w.heap.size) (c:=.int .i64 3) (k:=.int .i64 0) (set_two H1.out.res) rfl) rfl ?_
  rw[HN.out]
  exact⟨rfl,H1.out.set _ _⟩
 by_cases hn:0≤firstNeg tk 0
 ·have HN:Hid (a=(3,0)):=(by rw[← HA.out];unfold chkPl;rw[if_neg HZ0.out,if_neg h4,if_pos (.inr hn)]:a=(3,0))
  have HT2:=HT.out w2 H1.out.bel
  rw[decide_eq_true hn]at HT2
  go_wp2_with (first
   | (go_at_call 92;refine HT2.mono ?_;rintro r w3 ⟨rfl,hw3⟩;have hw4:=hw3.symm;subst hw4;clear HT2)
   | (go_at_call 91;refine(withinC_any _ _ _ _).mono ?_;rintro r w3 ⟨rfl,hw3⟩;have hw4:=hw3.symm;subst hw4;rw[hw]))
  refine bodyPost_ret (checkPlay_ends (g:=w.heap.size) (c:=.int .i64 3) (k:=.int .i64 0) (set_two H1.out.res) rfl) rfl ?_
  rw[HN.out]
  exact⟨rfl,H1.out.set _ _⟩
 have HT2:=HT.out w2 H1.out.bel
 rw[decide_eq_false hn]at HT2
 have HA2:Hid (chkC l cs 0=a):=by
  have h9:=HA.out
  unfold chkPl at h9
  rw[if_neg HZ0.out,if_neg h4,if_neg (by rw[hw];simpa using hn)]at h9
  exact h9
 have hok:=chkP_ok (l:=l) (by rw[HZ.out])
 have h1:=hok.one
 have h8:=hok.most
 clear HA HZ hok hn
 go_upto_region 9 with (first
  | (go_at_call 92;refine HT2.mono ?_;rintro r w3 ⟨rfl,hw3⟩;have hw4:=hw3.symm;subst hw4;clear HT2)
  | (go_at_call 91;refine(withinC_any _ _ _ _).mono ?_;rintro r w3 ⟨rfl,hw3⟩;have hw4:=hw3.symm;subst hw4;rw[hw]))
 have HX0:Hid (FB w w2 w.heap.size∧chkC l (cs.drop 0) 0=a):=⟨H1.out,HA2.out⟩
 clear g0 g1 q0 q1 qf0 qf1 ql fl hl1 HT H1 HA2
 go_wp2_with fail
 go_loopw [35] (fun iv wr=>∃i:Nat,i≤cs.length∧iv = .int .i64 (i:Int)∧Hid (FB w wr w.heap.size∧chkC l (cs.drop i) i=a)) (fun iv _=>cs.length-(intOf iv).toNat)
 case atStart=>exact⟨0,Nat.zero_le _,rfl,HX0⟩
 case round =>
  obtain⟨i,hi,rfl,HX⟩:=hrel
  clear HX0
  by_cases hil:i<cs.length
  rotate_left 1
  ·have hie:i=cs.length:=by omega
   subst hie
   have hii:¬ ((cs.length:Nat):Int)<(cs.length:Int):=by omega
   have HN:Hid (a=(0,0)):=by
    have h9:=HX.out.2
    rw[List.drop_of_length_le (Nat.le_refl _)]at h9
    exact h9.symm
   have H1:Hid (FB w wr w.heap.size):=HX.out.1
   obtain⟨q0,q1,qf0,qf1,ql⟩:=HX.out.1.res2
   go_wp2_with fail
   refine bodyPost_ret (checkPlay_ends (g:=w.heap.size) (c:=.int .i64 0) (k:=.int .i64 0) (set_two H1.out.res) rfl) rfl ?_
   rw[HN.out]
   exact⟨rfl,H1.out.set _ _⟩
  obtain⟨x,hx,hd⟩:=drop_at hil
  rcases HCR.out with h9|⟨b,o,rfl,hrow⟩
  ·rw[h9]at hil;simp at hil
  have hco:=co_at (fun q u hq=>below_cell HX.out.1.bel (hrow q u hq)) hx
  have lb:b<wr.heap.size:=World.block_lt_of_cell? _ _ hco.1
  have hii:(i:Int)<(cs.length:Int):=by omega
  have hch:=HX.out.2
  rw[hd]at hch
  unfold chkC at hch
  obtain⟨ck,ca⟩:=x
  obtain⟨y0,y1⟩:=hco
  dsimp only at y0 y1 hch
  have HCH:Hid ((if within ck 0 ((l.length:Int)-1)=false∨(l.getD ck.toNat paZ).fr≠-1 then (4,(i:Int)) else if within ca 0 20000=false then (3,(i:Int)) else chkC l (cs.drop (i+1)) (i+1))=a):=hch
  have HW:Hid (FB w wr w.heap.size):=HX.out.1
  have HF:Hid (FB w (wr.alloc (.cells #[.int .i64 ck,.int .i64 ca] 49)) w.heap.size):=HX.out.1.grow (below_new _ _)
  have hw1:IntKind.i64.wrap ((l.length:Int)-1)=(l.length:Int)-1:=by rw[IntKind.wrap_i64];omega
  have gne:¬ w.heap.size=wr.heap.size:=by have:=HX.out.1.lt;omega
  obtain⟨q0,q1,qf0,qf1,ql⟩:=HX.out.1.res2
  clear hx hd hch hrow HX
  rcases hw2:within ck 0 ((l.length:Int)-1) with _|_
  ·have HN:Hid (a=(4,(i:Int))):=by
    have h9:=HCH.out
    rw[if_pos (.inl hw2)]at h9
    exact h9.symm
   go_wp2_with (go_at_call 91;refine(withinC_any _ _ _ _).mono ?_;rintro r w3 ⟨rfl,hw3⟩;have hw4:=hw3.symm;subst hw4;rw[hw2])
   have hE:=HW.out.endA (.int .i64 4) (.int .i64 (i:Int)) (.cells #[.int .i64 ck,.int .i64 ca] 49)
   refine bodyPost_ret (checkPlay_ends (g:=w.heap.size) (c:=.int .i64 4) (k:=.int .i64 (i:Int)) hE.1 rfl) rfl ?_
   rw[HN.out]
   exact⟨rfl,hE.2⟩
  have hck:0≤ck∧ck≤(l.length:Int)-1:=by
   unfold within at hw2
   simpa using hw2
  obtain⟨kn,rfl⟩:∃kn:Nat,ck=(kn:Int):=⟨ck.toNat,by omega⟩
  have hkn:kn<l.length:=by omega
  obtain⟨x,hx⟩:∃x,l[kn]?=some x:=⟨_,List.getElem?_eq_getElem hkn⟩
  obtain⟨pad',pc',he,-,hpc,hprow⟩:=HV.out
  cases he
  rcases hprow with h9|⟨pb,po,rfl,hprow⟩
  ·rw[h9]at h1;simp at h1
  obtain⟨p0,p1,p2,p3,p4,p5,p6⟩:=pa7_at (fun q u hq=>below_cell HF.out.bel (hprow q u hq)) hx
  have lpb:=World.block_lt_of_cell? _ _ p0
  obtain⟨p0',-,-,-,-,-,-⟩:=pa7_at (fun q u hq=>hprow q u hq) hx
  have lpb2:pb<wr.heap.size:=Nat.lt_of_lt_of_le (World.block_lt_of_cell? _ _ p0') (Nat.le_of_lt_succ (by have:=HF.out.lt;have:=HF.out.bel.size;omega))
  have hkni:(kn:Int)<(l.length:Int):=by omega
  have HB:=begins_any (wr.alloc (.cells #[.int .i64 (kn:Int),.int .i64 ca] 49)) x
  have hxd:l.getD kn paZ=x:=getD_some hx
  have HCH2:Hid ((if x.fr≠-1 then (4,(i:Int)) else if within ca 0 20000=false then (3,(i:Int)) else chkC l (cs.drop (i+1)) (i+1))=a):=by
   have h9:=HCH.out
   rw[Int.toNat_natCast,hxd,hw2]at h9
   show _=_
   rw[← h9]
   by_cases e:x.fr=-1
   ·rw[if_neg (show ¬ x.fr≠-1 by simpa using e),if_neg (show ¬ (true=false∨x.fr≠-1) by simp[e])]
   ·rw[if_pos e,if_pos (.inr e)]
  clear hx hxd hprow HCH p0'
  obtain⟨xco,xfr,xse,xc,xt,xd,xp⟩:=x
  unfold Pa.val at HB
  dsimp only at *
  by_cases hf:xfr=-1
  rotate_left 1
  ·have hfb:(xfr == -1)=false:=by simpa using hf
   rw[hfb]at HB
   have HN:Hid (a=(4,(i:Int))):=by
    have h9:=HCH2.out
    rw[if_pos hf]at h9
    exact h9.symm
   clear hf HCH2
   go_wp2_with (first
    | (go_at_call 94;refine HB.mono ?_;rintro r w5 ⟨rfl,hb5⟩;have H5:Hid (FB w w5 w.heap.size):=HF.out.grow hb5;obtain⟨e0,e1,ef0,ef1,el⟩:=H5.out.res2;clear hb5 HB)
    | (go_at_call 91;refine(withinC_any _ _ _ _).mono ?_;rintro r w3 ⟨rfl,hw3⟩;have hw4:=hw3.symm;subst hw4;rw[hw2]))
   refine bodyPost_ret (checkPlay_ends (g:=w.heap.size) (c:=.int .i64 4) (k:=.int .i64 (i:Int)) (set_two H5.out.res) rfl) rfl ?_
   rw[HN.out]
   exact⟨rfl,H5.out.set _ _⟩
  have hfb:(xfr == -1)=true:=by simpa using hf
  rw[hfb]at HB
  have HCH3:Hid ((if within ca 0 20000=false then (3,(i:Int)) else chkC l (cs.drop (i+1)) (i+1))=a):=by
   have h9:=HCH2.out
   rw[if_neg (by simpa using hf)]at h9
   exact h9
  clear HCH2 hf
  have yc1:(wr.alloc (.cells #[.int .i64 (kn:Int),.int .i64 ca] 49)).cell? ⟨wr.heap.size,1,none⟩=some (.int .i64 ca):=(cells_of (l:=[_,_]) (heap_alloc_new wr (.cells #[.int .i64 (kn:Int),.int .i64 ca] 49))).1 1 _ rfl
  go_upto_region 13 with (first
   | (go_at_call 94;refine HB.mono ?_;rintro r w5 ⟨rfl,hb5⟩;have H5:Hid (FB w w5 w.heap.size):=HF.out.grow hb5;obtain⟨e0,e1,ef0,ef1,el⟩:=H5.out.res2;have yc5:=below_cell hb5 yc1;clear hb5 HB)
   | (go_at_call 91;refine(withinC_any _ _ _ _).mono ?_;rintro r w3 ⟨rfl,hw3⟩;have hw4:=hw3.symm;subst hw4;rw[hw2]))
  rcases hw5:within ca 0 20000 with _|_
  ·have HN:Hid (a=(3,(i:Int))):=by
    have h9:=HCH3.out
    rw[if_pos hw5]at h9
    exact h9.symm
   clear HCH3
   go_wp2_with (go_at_call 91;refine(withinC_any _ ca 0 20000).mono ?_;rintro r w6 ⟨rfl,hw6⟩;have hw7:=hw6.symm;subst hw7;rw[hw5])
   refine bodyPost_ret (checkPlay_ends (g:=w.heap.size) (c:=.int .i64 3) (k:=.int .i64 (i:Int)) (set_two H5.out.res) rfl) rfl ?_
   rw[HN.out]
   exact⟨rfl,H5.out.set _ _⟩
  ·have HN:Hid (chkC l (cs.drop (i+1)) (i+1)=a):=by
    have h9:=HCH3.out
    rw[if_neg (by rw[hw5];simp)]at h9
    exact h9
   clear HCH3
   go_wp2_with (go_at_call 91;refine(withinC_any _ ca 0 20000).mono ?_;rintro r w6 ⟨rfl,hw6⟩;have hw7:=hw6.symm;subst hw7;rw[hw5])
   exact⟨⟨i+1,by omega,by simp,⟨H5.out,HN.out⟩⟩,by simp[intOf];omega⟩
end Go.Proofs.YtccoobcggbbcialGreatDoor
namespace Go.Proofs
open Go.Shelf
def Tryz.mul_ren:Go.Shelf.Ren:=⟨fun|212=>149|263=>215|264=>216|n=>n,fun|46=>245|51=>296|146=>297|53=>299|148=>300|n=>n,fun|n=>n⟩
theorem Tryz.mul:Go.Proofs.Lays.n212 Tryz.prog Tryz.mul_ren:={
 mixed:=by kernel_rfl
 f212:=Tryz.func149.trans (congrArg some (by kernel_rfl))
 f263:=Tryz.func215.trans (congrArg some (by kernel_rfl))
 f264:=Tryz.func216.trans (congrArg some (by kernel_rfl))
 t46:=Tryz.underlying245
 a46:=Tryz.isAgg245
 z46:=Tryz.sizeOf245
 v46:=Tryz.zeroValue245
 t51:=Tryz.underlying296
 a51:=Tryz.isAgg296
 z51:=Tryz.sizeOf296
 v51:=Tryz.zeroValue296
 t53:=Tryz.underlying299
 a53:=Tryz.isAgg299
 z53:=Tryz.sizeOf299
 v53:=Tryz.zeroValue299
 t146:=Tryz.underlying297
 a146:=Tryz.isAgg297
 z146:=Tryz.sizeOf297
 v146:=Tryz.zeroValue297
 t148:=Tryz.underlying300
 a148:=Tryz.isAgg300
 z148:=Tryz.sizeOf300
 v148:=Tryz.zeroValue300 }
end Go.Proofs
namespace Go.Proofs.YtccoobcggbbcialGreatDoor
open Go.ChangeShapes Go.WideShapes Go.ChangeAt Go.RowKit
theorem setCells_heap(g:Nat)(e:TypeId)(fr:Nat × Nat):∀(vs:List Value) (o:Nat) (W:World) (cur:Array Value),W.heap[g]?=some (.cells cur e fr)→o+vs.length≤cur.size →
  ∃cur',(W.setCells g o vs).heap[g]?=some (.cells cur' e fr)∧cur'.toList=cur.toList.take o++vs++cur.toList.drop (o+vs.length)
 | [],o,W,cur,h,_=>⟨cur,h,by simp⟩
 | v::r,o,W,cur,h,hl=>by
  simp only[List.length_cons]at hl
  obtain⟨cur',h1,h2⟩:=setCells_heap g e fr r (o+1) (W.setCell ⟨g,o,none⟩ v) (cur.setIfInBounds o v) (setCell_at h) (by simp;omega)
  refine⟨cur',h1,?_⟩
  rw[h2,Array.toList_setIfInBounds,List.take_set,List.drop_set_of_lt (by omega)]
  have:((cur.toList.take (o+1)).set o v)=cur.toList.take o++[v]:=by
   have hlen:o<cur.toList.length:=by simp;omega
   rw[List.take_add_one,List.getElem?_eq_getElem hlen,List.set_append_right _ _ (by simp;omega)]
   simp[show min o cur.size=o by omega]
  rw[this]
  simp[show o+1+r.length=o+(r.length+1) by omega]
theorem setCells_keep(g:Nat):∀(vs:List Value) (o:Nat) (W:World),W.grownBy (W.setCells g o vs) (some g)
 | [],_,W=>⟨rfl,rfl,rfl,Nat.le_refl _,fun _ _ _=>rfl⟩
 | v::r,o,W=>by
  have h:=setCells_keep g r (o+1) (W.setCell ⟨g,o,none⟩ v)
  refine⟨h.os,h.tape,h.output,?_,fun k hk hne=>?_⟩
  ·have e:(W.setCell ⟨g,o,none⟩ v).heap.size=W.heap.size:=by simp
   exact e ▸ h.size
  ·have hk':k<(W.setCell ⟨g,o,none⟩ v).heap.size:=by simpa using hk
   rw[World.setCells,h.block k hk' hne,Below.heap_setCell _ _ _ _ (by intro e;exact hne (by rw[show k=g from e]))]
theorem make_row(W:World)(n g:Nat)(hn:n≤1000000)(hg:W.heap.size=g):(Instr.makeSlice 25 (.int .i64 (n:Int)) (.int .i64 (n:Int))).run Tryz.prog W = .ok (.slice (some ⟨g,0,none⟩) n n) (W.alloc (.cells (List.replicate n (Value.int .i64 0)).toArray 3)):=by
 subst hg
 obtain⟨i0,hi0,hz0,hz1,hz2⟩:=info_parts info3N
 have h:=run_make (P:=Tryz.prog) W 25 3 i0 _ Tryz.underlying25 hi0 hz0 .i64 .i64 (n:Int) (n:Int) (by omega) (by omega) (by rw[hz2];omega) (by omega)
 rw[Int.toNat_natCast,hz1,made_rep]at h
 exact h
theorem grownBy_below{a b:World}{row:Option Nat}{B:Nat}(h:a.grownBy b row)(hB:B≤a.heap.size)(hr:∀q,row=some q→B≤q):Below B a b :=
 (Below.refl _ a).grown h hB hr
def repCells(n k:Nat):List Value:=List.replicate k (.int .i64 (-1))++List.replicate (n-k) (.int .i64 0)
theorem rep_len(n k:Nat)(h:k≤n):(repCells n k).length=n:=by simp[repCells];omega
theorem rep_at{n k j:Nat}(h:j<k):(repCells n k)[j]?=some (.int .i64 (-1)):=by
 unfold repCells
 rw[List.getElem?_append_left (by simpa using h),List.getElem?_replicate,if_pos h]
theorem rep_copy(W:World)(g n k m sc:Nat)(hW:W.heap[g]?=some (.cells (repCells n k).toArray 3 (0,0)))(hk:k≤n)(hm:m≤n-k)(src:Addr)(sl dc:Nat)(hs:∀j v,(List.replicate m (Value.int .i64 (-1)))[j]?=some v→W.cell? (src.add j)=some v)(hmin:m=Nat.min sl (n-k)) :
  ∃W',(Builtin.copy_ #[25,25] 3 #[.slice (some ⟨g,k,none⟩) (n-k) dc,.slice (some src) sl sc]).run Tryz.prog W = .ok (.int .i64 (m:Int)) W'∧W'.heap[g]?=some (.cells (repCells n (k+m)).toArray 3 (0,0))∧W.grownBy W' (some g):=by
 have hsz:(Tryz.prog.info? 3).map (·.size)=some 1:=by
  obtain⟨i0,hi0,hz0,hz1,hz2⟩:=info_parts info3N
  rw[hi0];simp[hz1]
 obtain⟨hc,hf,-⟩:=cells_of (l:=repCells n k) hW
 have hlen:(List.replicate m (Value.int .i64 (-1))).length=m:=by simp
 have h:=run_copy_cells (P:=Tryz.prog) W 25 25 3 3 g k (n-k) dc src sl sc (List.replicate m (.int .i64 (-1))) Tryz.underlying25 hsz (by rw[hlen];exact hmin) hs (fun j hj=>by
  rw[hlen]at hj
  rw[hc (k+j) _ (List.getElem?_eq_getElem (by rw[rep_len n k hk];omega))];rfl) (fun j _=>hf _) (fun v hv=>by rw[(List.mem_replicate.1 hv).2];rfl)
 rw[hlen]at h
 obtain⟨cur',h1,h2⟩:=setCells_heap g 3 (0,0) (List.replicate m (.int .i64 (-1))) k W (repCells n k).toArray hW (by rw[hlen,List.size_toArray,rep_len n k hk];omega)
 refine⟨_,h,?_,setCells_keep _ _ _ _⟩
 suffices e:cur'=(repCells n (k+m)).toArray by rw[h1,e]
 apply Array.toList_inj.1
 rw[h2,hlen]
 show(repCells n k).take k++List.replicate m (.int .i64 (-1))++(repCells n k).drop (k+m)=repCells n (k+m)
 have e1:(repCells n k).take k=List.replicate k (.int .i64 (-1)):=by
  unfold repCells
  rw[List.take_append_of_le_length (by simp),List.take_of_length_le (by simp)]
 have e2:(repCells n k).drop (k+m)=List.replicate (n-(k+m)) (.int .i64 0):=by
  unfold repCells
  rw[List.drop_append,List.drop_of_length_le (by simp),List.nil_append,List.drop_replicate,List.length_replicate,show n-k-(k+m-k)=n-(k+m) by omega]
 rw[e1,e2]
 unfold repCells
 rw[List.replicate_append_replicate]
set_option maxRecDepth 20000 in
theorem Repeat_any(W:World)(b n:Nat)(hb:W.heap[b]?=some (.cells #[.int .i64 (-1)] 3 (0,0)))(hn:n≤100000) :
  Calls Tryz.prog 95 #[.slice (some ⟨b,0,none⟩) 1 1,.int .i64 (n:Int)] W fun r W'=>∃g,r = .returned (.slice (some ⟨g,0,none⟩) n n)∧W.heap.size≤g∧W'.heap[g]?=some (.cells (List.replicate n (Value.int .i64 (-1))).toArray 3 (0,0))∧Below W.heap.size W W':=by
 have hm:=Any.bits_Mul Tryz.mul 1 n (by omega) (by omega) W
 change Calls Tryz.prog 149 _ _ _ at hm
 rw[Nat.one_mul,Nat.mod_eq_of_lt (by omega),Nat.div_eq_of_lt (by omega)]at hm
 have hn0:¬ ((n:Int)<0):=by omega
 obtain⟨w2,hmk,hh0,hb1,hs2⟩:∃w2,(Instr.makeSlice 25 (.int .i64 (n:Int)) (.int .i64 (n:Int))).run Tryz.prog W = .ok (.slice (some ⟨W.heap.size,0,none⟩) n n) w2∧w2.heap[W.heap.size]?=some (.cells (repCells n 0).toArray 3 (0,0))∧Below W.heap.size W w2∧w2.heap.size=W.heap.size+1 :=
  ⟨_,make_row W n W.heap.size (by omega) rfl,by rw[heap_alloc_new];simp[repCells],below_new _ _,by simp⟩
 have hbb:=(hb1.block b (Array.getElem?_eq_some_iff.1 hb).1).trans hb
 obtain⟨hbc,-,-⟩:=cells_of (l:=[_]) hbb
 obtain⟨w3,hcp,hh3,hg3⟩:=rep_copy _ W.heap.size n 0 (Nat.min 1 n) 1 hh0 (by omega) (by simp[Nat.min_def];split<;>omega) ⟨b,0,none⟩ 1 n (fun j v hj=>by
  obtain⟨hj1,hj2⟩:=List.getElem?_eq_some_iff.1 hj
  have:j=0:=by simp[Nat.min_def]at hj1;split at hj1<;>omega
  subst this
  simp at hj2
  subst hj2
  rw[Addr.add_lit]
  exact hbc 0 _ rfl) (by simp)
 have hb3:Below W.heap.size W w3:=hb1.trans (grownBy_below (B:=W.heap.size) hg3 (by omega) (by intro q hq;cases hq;exact Nat.le_refl _))
 rw[Nat.sub_zero]at hcp
 rw[Nat.zero_add]at hh3
 have H3:Hid (w3.heap[W.heap.size]?=some (.cells (repCells n (Nat.min 1 n)).toArray 3 (0,0))∧Below W.heap.size W w3):=⟨hh3,hb3⟩
 clear hg3 hh3 hb3 hbc hbb hb1 hh0
 go_enter Tryz.func95,Tryz.ntmps95
 go_wp2_with (first|(go_at_call 149;refine hm.mono ?_;rintro r w1 ⟨rfl,rfl⟩)|(at_builtin;refine wpList_copy_runI _ rfl (.tmp 31) (.tmp 32) 25 25 rfl _ _ rfl rfl hcp ?_))
 have H4:Hid (∀wz m,wz.heap[w1.heap.size]?=some (.cells (repCells n m).toArray 3 (0,0))→Below w1.heap.size w1 wz→0<m→m<n→∃wz',(Builtin.copy_ #[25,25] 3 #[.slice (some ⟨w1.heap.size,m,none⟩) (n-m) (n-m),.slice (some ⟨w1.heap.size,0,none⟩) m n]).run Tryz.prog wz = .ok (.int .i64 ((Nat.min m (n-m):Nat):Int)) wz'∧wz'.heap[w1.heap.size]?=some (.cells (repCells n (m+Nat.min m (n-m))).toArray 3 (0,0))∧Below w1.heap.size w1 wz'):=fun wz m h1 h2 h3 h4=>by
  obtain⟨hc,-,-⟩:=cells_of (l:=repCells n m) h1
  obtain⟨wz',r1,r2,r3⟩:=rep_copy wz w1.heap.size n m (Nat.min m (n-m)) n h1 (by omega) (Nat.min_le_right _ _) ⟨w1.heap.size,0,none⟩ m (n-m) (fun j v hj=>by
   obtain⟨hj1,hj2⟩:=List.getElem?_eq_some_iff.1 hj
   have hjm:j<m:=by have h9:Nat.min m (n-m)≤m:=Nat.min_le_left m (n-m);rw[List.length_replicate]at hj1;omega
   rw[Addr.add_lit,Nat.zero_add,hc j _ (rep_at hjm),← hj2]
   simp) rfl
  exact⟨wz',r1,r2,h2.trans (grownBy_below (B:=w1.heap.size) r3 (Nat.le_of_lt (Array.getElem?_eq_some_iff.1 h1).1) (by intro q hq;cases hq;exact Nat.le_refl _))⟩
 go_loopw [8] (fun i wr=>∃k:Nat,k≤n∧(0<n→0<k)∧i = .int .i64 k∧wr.heap[w1.heap.size]?=some (.cells (repCells n k).toArray 3 (0,0))∧Below w1.heap.size w1 wr) (fun i _=>n-(intOf i).toNat)
 case atStart=>exact⟨Nat.min 1 n,Nat.min_le_right _ _,fun h=>by simp[Nat.min_def];split<;>omega,rfl,H3.out⟩
 case round =>
  obtain⟨k,hk,hk0,rfl,hh,hbl⟩:=hrel
  by_cases hlt:k<n
  ·obtain⟨wz,hrun,hz1,hz2⟩:=H4.out wr.drew k hh hbl.drew (hk0 (by omega)) hlt
   have HZ:Hid (wz.heap[w1.heap.size]?=some (.cells (repCells n (k+Nat.min k (n-k))).toArray 3 (0,0))∧Below w1.heap.size w1 wz):=⟨hz1,hz2⟩
   have hmin:0<Nat.min k (n-k)∧Nat.min k (n-k)≤n-k:=by
    have h9:=hk0 (by omega)
    rw[show Nat.min k (n-k)=if k≤n-k then k else n-k from Nat.min_def]
    split<;>omega
   clear hz1 hz2 hh hbl hk0
   have hne:¬ (n=k):=by omega
   have hkn:(k:Int)≤(n:Int):=by omega
   go_wp2_with fail
   have hS0:(fun _:World=>True) wr.drew:=trivial
   refine wp_region_noPanic ?_
   refine wp_region_held_drew (S:=fun _=>True) (by kernel_rfl) hS0 (fun hHeld=>?_)
   refine tqGPR (i:=0) (n:=38) (v:=?_) ?_ ?_
   rotate_left 1
   ·intro wz hSw
    first|(go_simp;done)|(go_simp;with_reducible rfl)
   simp only[ls0,ls1]
   refine tqGPR (i:=1) (n:=39) (v:=?_) ?_ ?_
   rotate_left 1
   ·intro wz hSw
    first|(go_simp;done)|(go_simp;with_reducible rfl)
   simp only[ls0,ls1]
   refine tqGPR (i:=2) (n:=40) (v:=?_) ?_ ?_
   rotate_left 1
   ·intro wz hSw
    first|(go_simp;done)|(go_simp;with_reducible rfl)
   simp only[ls0,ls1]
   refine tqGPR (i:=3) (n:=41) (v:=?_) ?_ ?_
   rotate_left 1
   ·intro wz hSw
    first|(go_simp;done)|(go_simp;with_reducible rfl)
   simp only[ls0,ls1]
   refine tqGPR (i:=4) (n:=42) (v:=?_) ?_ ?_
   rotate_left 1
   ·intro wz hSw
    first|(go_simp;done)|(go_simp;with_reducible rfl)
   simp only[ls0,ls1]
   refine tqGPR (i:=5) (n:=43) (v:=?_) ?_ ?_
   rotate_left 1
   ·intro wz hSw
    first|(go_simp;done)|(go_simp;with_reducible rfl)
   simp only[ls0,ls1]
   refine tqGPR (i:=6) (n:=44) (v:=?_) ?_ ?_
   rotate_left 1
   ·intro wz hSw
    first|(go_simp;done)|(go_simp;with_reducible rfl)
   simp only[ls0,ls1]
   refine wpAnyH_ready (rs:=[7]) (by kernel_rfl) (by simp) ?_
   refine AllReadyH.cons rfl (fun K hK=>?_) AllReadyH.nil
   refine step_copy_runI rfl (.tmp 41) (.tmp 44) 25 25 rfl _ _ rfl rfl hrun ?_
   refine hK.out _ _ trivial (fun hHeld=>?_)
   clear hK K
   simp only[Act.put,List.setIfInBounds_toArray]
   refine tqGPR (i:=8) (n:=46) (v:=?_) ?_ ?_
   rotate_left 1
   ·intro wz hSw
    first|(go_simp;done)|(go_simp;with_reducible rfl)
   simp only[ls0,ls1]
   refine tqGPR (i:=9) (n:=8) (v:=?_) ?_ ?_
   rotate_left 1
   ·intro wz hSw
    first|(go_simp;done)|(go_simp;with_reducible rfl)
   simp only[ls0,ls1]
   refine wpAnyH_done (by kernel_rfl) ?_ _
   refine NoPanic.normal ?_
   go_wp2_with fail
   have hwrap:IntKind.i64.wrap ((k:Int)+((Nat.min k (n-k):Nat):Int))=((k+Nat.min k (n-k):Nat):Int):=by rw[IntKind.wrap_i64];omega
   rw[hwrap]
   exact⟨⟨k+Nat.min k (n-k),by omega,fun _=>by omega,rfl,HZ.out⟩,by simp only[intOf,Int.toNat_natCast];omega⟩
  ·have hke:k=n:=by omega
   subst hke
   clear hk0
   have HE:Hid (wr.heap[w1.heap.size]?=some (.cells (repCells k k).toArray 3 (0,0))∧Below w1.heap.size w1 wr):=⟨hh,hbl⟩
   clear hh hbl
   go_wp2_with fail
   go_ret
   refine⟨w1.heap.size,rfl,Nat.le_refl _,?_,HE.out.2⟩
   rw[HE.out.1]
   simp[repCells]
end Go.Proofs.YtccoobcggbbcialGreatDoor
