import Derived.Test.YtccoobcggbbcialGreatDoorGHZ6
import Derived.Test.YtccoobcggbbcialGreatDoorGST2
namespace Go.Proofs.YtccoobcggbbcialGreatDoor
open Go.ChangeShapes Go.WideShapes Go.ChangeAt Go.RowKit
theorem tqGSS2{P:Program}{md:Region.Mode}{ops:Array Oper}{Q:Exit→Act→World→Prop}{S:World→Prop}{i n:Nat}{oi:Oper}{v:Value}{fuel:Nat}{listed:Array Bool}{l:List Value}{ds:List Deferred}{w:World}
  (hy:∀w,S w→(execOp (Act.eval ⟨l.toArray,ds⟩) oi).run P w = .ok (.value v) w) (h:wpAnyH P md ops Q S fuel (listed.setIfInBounds i true) ⟨(l.set n v).toArray,ds⟩ w)
  (hi:ops[i]?=some oi:=by rfl) (hd:oi.dst=some n:=by rfl) (hs:(Region.noSelect ops && Region.free md ops listed i && (Region.ready md ops listed).contains i)=true:=by kernel_rfl)
  (hQ:∀c a w,Q (.panic c) (a.put oi.dst v) w→Q (.panic c) a w:=by exact fun _ _ _ h=>h) (hg:Region.wanted oi (yielded ops l.toArray)=true:=by rfl) (hS:S w:=by assumption):wpAnyH P md ops Q S (fuel+1) listed ⟨l.toArray,ds⟩ w:=by
 simp only[Bool.and_eq_true]at hs
 exact take_at hi hd hs.1.1 hs.1.2 hs.2 hQ (.inl ⟨hg,hy⟩) hS h
end Go.Proofs.YtccoobcggbbcialGreatDoor
namespace Go.Proofs.YtccoobcggbbcialGreatDoor.Stab
open Go.ChangeShapes Go.WideShapes Go.ChangeAt Go.RowKit
open Go.Sort (swp swp_get swp_size SWO SWO.asymmA PermIn permIn_refl permIn_trans permIn_mono permIn_all swp_permIn)
def encN(k:Nat):Value:=.int .i64 (k:Int)
structure SC (l:List Co) (v:Value) (bS g:Nat) (W0:World):Prop where
 row:RowSl Co.vals W0 l v
 box:W0.cell? ⟨bS,0,none⟩=some v
 bx:bS<g
 low:l≠[]→∀ad c,v = .slice ad l.length c→∀b o,ad=some ⟨b,o,none⟩→b<g
structure SD (l:List Co) (g:Nat) (W0 W:World) (d:Array Nat):Prop where
 bel:Below g W0 W
 dat:W.heap[g]?=some (.cells (d.map encN) 3 (0,0))
 lim:∀k,k<d.size→d[k]!<l.length
theorem SD.lt{l:List Co}{g:Nat}{W0 W:World}{d:Array Nat}(h:SD l g W0 W d):g<W.heap.size:=(Array.getElem?_eq_some_iff.1 h.dat).1
theorem SD.cell{l:List Co}{g:Nat}{W0 W:World}{d:Array Nat}(h:SD l g W0 W d){i:Nat}(hi:i<d.size):W.cell? ⟨g,i,none⟩=some (.int .i64 (d[i]! : Nat))∧W.frozen? ⟨g,i,none⟩=false:=by
 obtain⟨c,f,-⟩:=cells_of (l:=(d.map encN).toList) (by rw[Array.toArray_toList];exact h.dat)
 refine⟨c i _ ?_,f i⟩
 rw[Array.getElem?_toList,Array.getElem?_map,Array.getElem?_eq_getElem hi,getElem!_pos d i hi]
 rfl
theorem SD.drew{l:List Co}{g:Nat}{W0 W:World}{d:Array Nat}(h:SD l g W0 W d):SD l g W0 W.drew d:=⟨h.bel.drew,h.dat,h.lim⟩
theorem SD.swap{l:List Co}{g:Nat}{W0 W:World}{d:Array Nat}(h:SD l g W0 W d){i j:Nat}(hi:i<d.size)(hj:j<d.size):SD l g W0 ((W.setCell ⟨g,i,none⟩ (encN d[j]!)).setCell ⟨g,j,none⟩ (encN d[i]!)) (swp d i j):=by
 refine⟨(h.bel.setCell (Nat.le_refl _) _).setCell (Nat.le_refl _) _,?_,fun k hk=>?_⟩
 ·rw[setCell_at (setCell_at h.dat)]
  unfold swp
  rw[Array.map_setIfInBounds,Array.map_setIfInBounds]
 ·rw[swp_size]at hk
  rw[swp_get d hi hj]
  split
  ·exact h.lim i hi
  split
  ·exact h.lim j hj
  ·exact h.lim k hk
theorem SD.cmp{l:List Co}{v:Value}{bS g:Nat}{W0 W:World}{d:Array Nat}(hC:SC l v bS g W0)(h:SD l g W0 W d){i j:Nat}(hi:i<d.size)(hj:j<d.size) :
  Calls Tryz.prog 98 #[.int .i64 (d[i]! : Nat),.int .i64 (d[j]! : Nat),.pointer (some ⟨bS,0,none⟩)] W fun r w'=>r = .returned (.int .i64 (cmpI (Ck l d[i]!).a (Ck l d[j]!).a))∧SD l g W0 w' d:=by
 have keep:∀(p:Addr) (u:Value),W0.cell? p=some u→p.block<g→W.cell? p=some u:=fun p u hp hl=>by
  rw[h.bel.cell hl]
  exact hp
 have hv:RowSl Co.vals W l v:=by
  obtain⟨ad,c,rfl,q1,q2,q3⟩:=hC.row
  refine⟨ad,c,rfl,q1,q2,?_⟩
  rcases q3 with q3|⟨b,o,e,q3⟩
  ·exact .inl q3
  ·exact .inr ⟨b,o,e,fun q u hq=>keep _ _ (q3 q u hq) (hC.low (by rintro rfl;have:=h.lim i hi;simp at this) ad c rfl b o e)⟩
 refine(byAt_any W l v bS _ _ (h.lim i hi) (h.lim j hj) hv (keep _ _ hC.box hC.bx)).mono ?_
 rintro r w' ⟨rfl,q,rfl⟩
 exact⟨rfl,h.bel.trans ⟨rfl,rfl,rfl,Nat.le_refl _,fun _ _=>rfl⟩,h.dat,h.lim⟩
def ltC(l:List Co)(x y:Nat):Bool:=decide ((Ck l x).a<(Ck l y).a)
theorem ltC_swo(l:List Co):SWO (ltC l) where
 irrefl x:=by unfold ltC;simp
 trans x y z h1 h2:=by
  unfold ltC at *
  have:=of_decide_eq_true h1
  have:=of_decide_eq_true h2
  exact decide_eq_true (by omega)
 ntrans x y z h1 h2:=by
  unfold ltC at *
  have:=of_decide_eq_false h1
  have:=of_decide_eq_false h2
  exact decide_eq_false (by omega)
theorem cmp_lt(l:List Co)(x y:Nat):decide (cmpI (Ck l x).a (Ck l y).a<0)=ltC l x y:=by
 unfold ltC cmpI
 by_cases h:(Ck l x).a<(Ck l y).a
 ·simp[h]
 ·by_cases h2:(Ck l y).a<(Ck l x).a<;>simp[h,h2]
set_option maxRecDepth 20000 in
set_option maxHeartbeats 4000000 in
theorem swapR_any{l:List Co}{g:Nat}{W0 W:World}{d:Array Nat}(h:SD l g W0 W d)(bS a b n:Nat)(hab:a+n≤b)(hb:b+n≤d.size)(hs:d.size≤4194304) :
  Calls Tryz.prog 246 #[.slice (some ⟨g,0,none⟩) d.size d.size,.int .i64 (a:Int),.int .i64 (b:Int),.int .i64 (n:Int),(.func (Fn.func 98) #[] #[.pointer (some ⟨bS,0,none⟩)])] W fun r W'=>r = .returned (.tuple #[])∧∃d',SD l g W0 W' d'∧Swr a b n d d'∧PermIn a (b+n) d d':=by
 have H0:Hid (SD l g W0 W d):=h
 clear h
 go_enter Tryz.func246,Tryz.ntmps246
 go_wp2_with fail
 go_loopw [10] (fun iv wr=>∃(j:Nat) (d':Array Nat),j≤n∧iv = .int .i64 (j:Int)∧SD l g W0 wr d'∧Swr a b j d d'∧PermIn a (b+n) d d') (fun iv _=>n-(intOf iv).toNat)
 case atStart=>exact⟨0,d,Nat.zero_le _,rfl,H0.out,Swr.refl _ _ _,permIn_refl _ _ _⟩
 case round =>
  obtain⟨j,d',hj,rfl,hd,hw,hp⟩:=hrel
  have hz:=hw.1
  have HD:Hid (SD l g W0 wr d'∧Swr a b j d d'∧PermIn a (b+n) d d'):=⟨hd,hw,hp⟩
  by_cases hjn:j<n
  ·obtain⟨p,hpe⟩:∃p,p=a+j:=⟨_,rfl⟩
   obtain⟨q,hqe⟩:∃q,q=b+j:=⟨_,rfl⟩
   have hps:p<d'.size:=by omega
   have hqs:q<d'.size:=by omega
   obtain⟨c0,f0⟩:=hd.cell hps
   obtain⟨c1,f1⟩:=hd.cell hqs
   have lg:=hd.lt
   have HN:Hid (SD l g W0 ((wr.setCell ⟨g,p,none⟩ (.int .i64 (d'[q]! : Nat))).setCell ⟨g,q,none⟩ (.int .i64 (d'[p]! : Nat))).drew (swp d' p q)∧Swr a b (j+1) d (swp d' p q)∧PermIn a (b+n) d (swp d' p q)):=⟨(hd.swap hps hqs).drew,by rw[hpe,hqe];exact hw.step hjn hab hb,permIn_trans _ _ _ _ _ hp (swp_permIn _ _ _ _ _ (by omega) (by omega) (by omega) (by omega) (by omega))⟩
   have HP:Hid (p≠q∧p=a+j∧q=b+j):=⟨by omega,hpe,hqe⟩
   have hji:(j:Int)<(n:Int):=by omega
   have e0:(a:Int)+(j:Int)=(p:Int):=by omega
   have e1:(b:Int)+(j:Int)=(q:Int):=by omega
   have e2:(p:Int)<(d.size:Int):=by omega
   have e3:(q:Int)<(d.size:Int):=by omega
   have e4:p<4194304:=by omega
   have e5:q<4194304:=by omega
   have e6:j<4194304:=by omega
   have e7:IntKind.i64.wrap (p:Int)=(p:Int):=by rw[IntKind.wrap_i64];omega
   have e8:IntKind.i64.wrap (q:Int)=(q:Int):=by rw[IntKind.wrap_i64];omega
   clear hd hw hp H0 hz hpe hqe hps hqs HD
   generalize d.size=N at *
   generalize d'[p]! =x at *
   generalize d'[q]! =y at *
   go_wp2_with fail
   refine wp_region_noPanic ?_
   refine wp_region_held_drew (S:=fun w'=>(∃u,w'.cell? ⟨g,p,none⟩=some u)∧(∃u,w'.cell? ⟨g,q,none⟩=some u)∧w'.frozen? ⟨g,p,none⟩=false∧w'.frozen? ⟨g,q,none⟩=false) (by kernel_rfl) ⟨⟨_,c0⟩,⟨_,c1⟩,f0,f1⟩ (fun hHeld=>?_)
   refine tqGSS2 (i:=0) (n:=16) (v:=?_) ?_ ?_
   rotate_left 1
   ·intro wz hSw
    obtain⟨-,-,-,-⟩:=hSw
    first|(go_simp;done)|(go_simp;with_reducible rfl)
   simp only[ls0,ls1]
   refine tqGSS2 (i:=1) (n:=17) (v:=?_) ?_ ?_
   rotate_left 1
   ·intro wz hSw
    obtain⟨-,-,-,-⟩:=hSw
    first|(go_simp;done)|(go_simp;with_reducible rfl)
   simp only[ls0,ls1]
   refine tqGSS2 (i:=2) (n:=18) (v:=?_) ?_ ?_
   rotate_left 1
   ·intro wz hSw
    obtain⟨-,-,-,-⟩:=hSw
    first|(go_simp;done)|(go_simp;with_reducible rfl)
   simp only[ls0,ls1]
   refine tqGSS2 (i:=3) (n:=19) (v:=?_) ?_ ?_
   rotate_left 1
   ·intro wz hSw
    obtain⟨-,-,-,-⟩:=hSw
    first|(go_simp;done)|(go_simp;with_reducible rfl)
   simp only[ls0,ls1]
   refine tqGSS2 (i:=4) (n:=20) (v:=?_) ?_ ?_
   rotate_left 1
   ·intro wz hSw
    obtain⟨-,-,-,-⟩:=hSw
    first|(go_simp;done)|(go_simp;with_reducible rfl)
   simp only[ls0,ls1]
   refine tqGSS2 (i:=5) (n:=21) (v:=?_) ?_ ?_
   rotate_left 1
   ·intro wz hSw
    obtain⟨-,-,-,-⟩:=hSw
    first|(go_simp;done)|(go_simp;with_reducible rfl)
   simp only[ls0,ls1]
   refine tqGSS2 (i:=6) (n:=22) (v:=?_) ?_ ?_
   rotate_left 1
   ·intro wz hSw
    obtain⟨-,-,-,-⟩:=hSw
    first|(go_simp;done)|(go_simp;with_reducible rfl)
   simp only[ls0,ls1]
   refine tqGSS2 (i:=7) (n:=23) (v:=?_) ?_ ?_
   rotate_left 1
   ·intro wz hSw
    obtain⟨-,-,-,-⟩:=hSw
    first|(go_simp;done)|(go_simp;with_reducible rfl)
   simp only[ls0,ls1]
   refine tqGSS2 (i:=8) (n:=24) (v:=?_) ?_ ?_
   rotate_left 1
   ·intro wz hSw
    obtain⟨-,-,-,-⟩:=hSw
    first|(go_simp;done)|(go_simp;with_reducible rfl)
   simp only[ls0,ls1]
   refine tqGSS2 (i:=9) (n:=25) (v:=?_) ?_ ?_
   rotate_left 1
   ·intro wz hSw
    obtain⟨-,-,-,-⟩:=hSw
    first|(go_simp;done)|(go_simp;with_reducible rfl)
   simp only[ls0,ls1]
   refine tqGSS2 (i:=10) (n:=26) (v:=?_) ?_ ?_
   rotate_left 1
   ·intro wz hSw
    obtain⟨-,-,-,-⟩:=hSw
    first|(go_simp;done)|(go_simp;with_reducible rfl)
   simp only[ls0,ls1]
   refine tqGSS2 (i:=11) (n:=27) (v:=?_) ?_ ?_
   rotate_left 1
   ·intro wz hSw
    obtain⟨-,-,-,-⟩:=hSw
    first|(go_simp;done)|(go_simp;with_reducible rfl)
   simp only[ls0,ls1]
   refine tqGSS2 (i:=12) (n:=28) (v:=?_) ?_ ?_
   rotate_left 1
   ·intro wz hSw
    obtain⟨-,-,-,-⟩:=hSw
    first|(go_simp;done)|(go_simp;with_reducible rfl)
   simp only[ls0,ls1]
   refine tqGSS2 (i:=14) (n:=30) (v:=?_) ?_ ?_
   rotate_left 1
   ·intro wz hSw
    obtain⟨-,-,-,-⟩:=hSw
    first|(go_simp;done)|(go_simp;with_reducible rfl)
   simp only[ls0,ls1]
   refine tqGSS2 (i:=15) (n:=31) (v:=?_) ?_ ?_
   rotate_left 1
   ·intro wz hSw
    obtain⟨-,-,-,-⟩:=hSw
    first|(go_simp;done)|(go_simp;with_reducible rfl)
   simp only[ls0,ls1]
   refine tqGSS2 (i:=16) (n:=32) (v:=?_) ?_ ?_
   rotate_left 1
   ·intro wz hSw
    obtain⟨-,-,-,-⟩:=hSw
    first|(go_simp;done)|(go_simp;with_reducible rfl)
   simp only[ls0,ls1]
   refine tqGSS2 (i:=17) (n:=33) (v:=?_) ?_ ?_
   rotate_left 1
   ·intro wz hSw
    obtain⟨-,-,-,-⟩:=hSw
    first|(go_simp;done)|(go_simp;with_reducible rfl)
   simp only[ls0,ls1]
   refine tqGSS2 (i:=18) (n:=34) (v:=?_) ?_ ?_
   rotate_left 1
   ·intro wz hSw
    obtain⟨-,-,-,-⟩:=hSw
    first|(go_simp;done)|(go_simp;with_reducible rfl)
   simp only[ls0,ls1]
   refine wpAnyH_ready (rs:=[13,19]) (by kernel_rfl) (by simp) ?_
   refine AllReadyH.cons rfl (fun K hK=>?_) (AllReadyH.cons rfl (fun K hK=>?_) AllReadyH.nil)
   ·go_simp
    refine hK.out _ _ ⟨⟨_,c0⟩,⟨_,c1⟩,f0,f1⟩ (fun hHeld=>?_)
    clear hK K
    try simp only[ls0,ls1]
    refine wpAnyH_ready (rs:=[19]) (by kernel_rfl) (by simp) ?_
    refine AllReadyH.cons rfl (fun K hK=>?_) AllReadyH.nil
    go_simp
    refine hK.out _ _ ⟨⟨_,c0⟩,⟨_,c1⟩,f0,f1⟩ (fun hHeld=>?_)
    clear hK K
    try simp only[ls0,ls1]
    refine tqGSS2 (i:=20) (n:=36) (v:=?_) ?_ ?_
    rotate_left 1
    ·intro wz hSw
     obtain⟨-,-,-,-⟩:=hSw
     first|(go_simp;done)|(go_simp;with_reducible rfl)
    simp only[ls0,ls1]
    refine wpAnyH_ready (rs:=[21]) (by kernel_rfl) (by simp) ?_
    refine AllReadyH.cons rfl (fun K hK=>?_) AllReadyH.nil
    go_simp
    refine hK.out _ _ ⟨by go_simp,by go_simp,by go_simp,by go_simp⟩ (fun hHeld=>?_)
    clear hK K
    try simp only[ls0,ls1]
    refine tqGSS2 (i:=22) (n:=37) (v:=?_) ?_ ?_
    rotate_left 1
    ·intro wz hSw
     obtain⟨-,-,-,-⟩:=hSw
     first|(go_simp;done)|(go_simp;with_reducible rfl)
    simp only[ls0,ls1]
    refine wpAnyH_ready (rs:=[23]) (by kernel_rfl) (by simp) ?_
    refine AllReadyH.cons rfl (fun K hK=>?_) AllReadyH.nil
    go_simp
    refine hK.out _ _ ⟨by go_simp,by go_simp,by go_simp,by go_simp⟩ (fun hHeld=>?_)
    clear hK K
    try simp only[ls0,ls1]
    refine wpAnyH_done (by kernel_rfl) ?_ _
    refine NoPanic.normal ?_
    clear hHeld
    go_wp2_with fail
    exact⟨⟨j+1,_,by omega,by simp,HN.out⟩,by simp[intOf];omega⟩
   ·go_simp
    refine hK.out _ _ ⟨⟨_,c0⟩,⟨_,c1⟩,f0,f1⟩ (fun hHeld=>?_)
    clear hK K
    try simp only[ls0,ls1]
    refine wpAnyH_ready (rs:=[13]) (by kernel_rfl) (by simp) ?_
    refine AllReadyH.cons rfl (fun K hK=>?_) AllReadyH.nil
    go_simp
    refine hK.out _ _ ⟨⟨_,c0⟩,⟨_,c1⟩,f0,f1⟩ (fun hHeld=>?_)
    clear hK K
    try simp only[ls0,ls1]
    refine tqGSS2 (i:=20) (n:=36) (v:=?_) ?_ ?_
    rotate_left 1
    ·intro wz hSw
     obtain⟨-,-,-,-⟩:=hSw
     first|(go_simp;done)|(go_simp;with_reducible rfl)
    simp only[ls0,ls1]
    refine wpAnyH_ready (rs:=[21]) (by kernel_rfl) (by simp) ?_
    refine AllReadyH.cons rfl (fun K hK=>?_) AllReadyH.nil
    go_simp
    refine hK.out _ _ ⟨by go_simp,by go_simp,by go_simp,by go_simp⟩ (fun hHeld=>?_)
    clear hK K
    try simp only[ls0,ls1]
    refine tqGSS2 (i:=22) (n:=37) (v:=?_) ?_ ?_
    rotate_left 1
    ·intro wz hSw
     obtain⟨-,-,-,-⟩:=hSw
     first|(go_simp;done)|(go_simp;with_reducible rfl)
    simp only[ls0,ls1]
    refine wpAnyH_ready (rs:=[23]) (by kernel_rfl) (by simp) ?_
    refine AllReadyH.cons rfl (fun K hK=>?_) AllReadyH.nil
    go_simp
    refine hK.out _ _ ⟨by go_simp,by go_simp,by go_simp,by go_simp⟩ (fun hHeld=>?_)
    clear hK K
    try simp only[ls0,ls1]
    refine wpAnyH_done (by kernel_rfl) ?_ _
    refine NoPanic.normal ?_
    clear hHeld
    go_wp2_with fail
    exact⟨⟨j+1,_,by omega,by simp,HN.out⟩,by simp[intOf];omega⟩
  ·have hje:j=n:=by omega
   subst hje
   clear hd hw hp
   go_wp2_with fail
   go_end0
   exact⟨rfl,d',HD.out⟩
theorem wrap_nat{p:Nat}(h:p<9223372036854775808):IntKind.i64.wrap (p:Int)=(p:Int):=by rw[IntKind.wrap_i64];omega
set_option maxRecDepth 20000 in
set_option maxHeartbeats 4000000 in
theorem rot_any{l:List Co}{g:Nat}{W0 W:World}{d:Array Nat}(h:SD l g W0 W d)(bS a m b:Nat)(ham:a<m)(hmb:m<b)(hb:b≤d.size)(hs:d.size≤4194304) :
  Calls Tryz.prog 243 #[.slice (some ⟨g,0,none⟩) d.size d.size,.int .i64 (a:Int),.int .i64 (m:Int),.int .i64 (b:Int),(.func (Fn.func 98) #[] #[.pointer (some ⟨bS,0,none⟩)])] W fun r W'=>r = .returned (.tuple #[])∧∃d',SD l g W0 W' d'∧Rot a m b d d'∧PermIn a b d d':=by
 have HS:=fun(W1:World) (d1:Array Nat) (hd:SD l g W0 W1 d1)=>swapR_any hd bS
 have H0:Hid (SD l g W0 W d):=h
 obtain⟨i0,hi0⟩:∃i0,i0=m-a:=⟨_,rfl⟩
 obtain⟨j0,hj0⟩:∃j0,j0=b-m:=⟨_,rfl⟩
 have x0:(m:Int)-(a:Int)=(i0:Int):=by omega
 have x1:(b:Int)-(m:Int)=(j0:Int):=by omega
 have x2:IntKind.i64.wrap (i0:Int)=(i0:Int):=wrap_nat (by omega)
 have x3:IntKind.i64.wrap (j0:Int)=(j0:Int):=wrap_nat (by omega)
 have HI:Hid (i0=m-a∧j0=b-m):=⟨hi0,hj0⟩
 clear h hi0 hj0
 go_enter Tryz.func243,Tryz.ntmps243
 go_wp2_with fail
 clear x0 x1 x2 x3
 go_loopw [10,11] (fun iv jv wr=>∃(i j:Nat) (d':Array Nat),0<i∧0<j∧a+i≤m∧m+j≤b∧iv = .int .i64 (i:Int)∧jv = .int .i64 (j:Int)∧SD l g W0 wr d'∧d'.size=d.size∧PermIn a b d d'∧Hid (∀d2,Rot (m-i) m (m+j) d' d2→Rot a m b d d2)) (fun iv jv _=>(intOf iv).toNat+(intOf jv).toNat)
 case atStart=>exact⟨i0,j0,d,by have:=HI.out;omega,by have:=HI.out;omega,by have:=HI.out;omega,by have:=HI.out;omega,rfl,rfl,H0.out,rfl,permIn_refl _ _ _,by
  have h1:=HI.out
  intro d2 h2
  rw[show m-i0=a by omega,show m+j0=b by omega]at h2
  exact h2⟩
 case round =>
  obtain⟨i,j,d',hi,hj,hai,hjb,rfl,rfl,hd,hz,hp,hr⟩:=hrel
  have HD:Hid (SD l g W0 wr d'∧d'.size=d.size∧PermIn a b d d'∧∀d2,Rot (m-i) m (m+j) d' d2→Rot a m b d d2):=⟨hd,hz,hp,hr.out⟩
  have HB:Hid (a<m∧m<b∧b≤d.size∧d.size≤4194304):=⟨ham,hmb,hb,hs⟩
  obtain⟨p,hpe⟩:∃p,p=m-i:=⟨_,rfl⟩
  have y0:(m:Int)-(i:Int)=(p:Int):=by omega
  have y1:IntKind.i64.wrap (p:Int)=(p:Int):=wrap_nat (by omega)
  have HPE:Hid (p=m-i):=hpe
  have S1:=HS wr d' hd p
  rw[hz]at S1
  have hperm:∀(lo hi2:Nat) (d2:Array Nat),a≤lo→hi2≤b→PermIn lo hi2 d' d2→PermIn a b d d2:=fun lo hi2 d2 h1 h2 h3=>permIn_trans _ _ _ _ _ hp (permIn_mono _ _ _ _ _ _ h1 h2 (by omega) h3)
  have HPM:Hid (∀(lo hi2:Nat) (d2:Array Nat),a≤lo→hi2≤b→PermIn lo hi2 d' d2→PermIn a b d d2):=hperm
  clear hr hperm hd hp HS H0
  rcases Nat.lt_trichotomy i j with hij|hij|hij
  ·obtain⟨s,hse⟩:∃s,s=m+j:=⟨_,rfl⟩
   obtain⟨q,hqe⟩:∃q,q=m+j-i:=⟨_,rfl⟩
   obtain⟨k,hke⟩:∃k,k=j-i:=⟨_,rfl⟩
   have y2:(m:Int)+(j:Int)=(s:Int):=by omega
   have y3:(s:Int)-(i:Int)=(q:Int):=by omega
   have y4:(j:Int)-(i:Int)=(k:Int):=by omega
   have y5:IntKind.i64.wrap (s:Int)=(s:Int):=wrap_nat (by omega)
   have y6:IntKind.i64.wrap (q:Int)=(q:Int):=wrap_nat (by omega)
   have y7:IntKind.i64.wrap (k:Int)=(k:Int):=wrap_nat (by omega)
   have h1:¬ (i:Int)=(j:Int):=by omega
   have h2:¬ (j:Int)<(i:Int):=by omega
   have S2:=S1 q i (by omega) (by omega) hs
   have HQ:Hid (s=m+j∧q=m+j-i∧k=j-i∧i<j∧0<i∧0<j∧a+i≤m∧m+j≤b):=⟨hse,hqe,hke,hij,hi,hj,hai,hjb⟩
   clear S1 hse hqe hke hpe hij hi hj hai hjb hz hb hs ham hmb
   generalize d.size=N at *
   go_wp2_with (go_at_call 246;refine S2.mono ?_;rintro r w5 ⟨rfl,d2,h3,h4,h5⟩;have H5:Hid (SD l g W0 w5 d2∧Swr p q i d' d2∧PermIn p (q+i) d' d2):=⟨h3,h4,h5⟩;clear h3 h4 h5 S2)
   obtain⟨q1,q2,q3,q4,q5,q6,q7,q8⟩:=HQ.out
   have p1:=HPE.out
   refine⟨⟨i,k,d2,q5,by omega,q7,by omega,rfl,rfl,H5.out.1,H5.out.2.2.1.trans HD.out.2.1,HPM.out _ _ _ (by omega) (by omega) H5.out.2.2,?_⟩,by simp[intOf];omega⟩
   intro d3 h9
   refine HD.out.2.2.2 d3 (rot_lt (by omega) q4 (d':=d2) (by rw[← p1,← q2];exact H5.out.2.1) (by rw[← q3];exact h9))
  ·subst hij
   have S2:=S1 m i (by omega) (by omega) hs
   have HQ:Hid (0<i∧a+i≤m∧m+i≤b):=⟨hi,hai,hjb⟩
   clear S1 hpe hi hj hai hjb hz hb hs ham hmb
   generalize d.size=N at *
   go_wp2_with (go_at_call 246;refine S2.mono ?_;rintro r w5 ⟨rfl,d2,h3,h4,h5⟩;have H5:Hid (SD l g W0 w5 d2∧Swr p m i d' d2∧PermIn p (m+i) d' d2):=⟨h3,h4,h5⟩;clear h3 h4 h5 S2)
   go_end0
   obtain⟨q1,q2,q3⟩:=HQ.out
   have p1:=HPE.out
   refine⟨rfl,d2,H5.out.1,HD.out.2.2.2 d2 (rot_eq (by omega) (by rw[← p1];exact H5.out.2.1)),HPM.out _ _ _ (by omega) (by omega) H5.out.2.2⟩
  ·obtain⟨k,hke⟩:∃k,k=i-j:=⟨_,rfl⟩
   have y4:(i:Int)-(j:Int)=(k:Int):=by omega
   have y7:IntKind.i64.wrap (k:Int)=(k:Int):=wrap_nat (by omega)
   have h1:¬ (i:Int)=(j:Int):=by omega
   have h2:(j:Int)<(i:Int):=by omega
   have S2:=S1 m j (by omega) (by omega) hs
   have HQ:Hid (k=i-j∧j<i∧0<i∧0<j∧a+i≤m∧m+j≤b):=⟨hke,hij,hi,hj,hai,hjb⟩
   clear S1 hke hpe hij hi hj hai hjb hz hb hs ham hmb
   generalize d.size=N at *
   go_wp2_with (go_at_call 246;refine S2.mono ?_;rintro r w5 ⟨rfl,d2,h3,h4,h5⟩;have H5:Hid (SD l g W0 w5 d2∧Swr p m j d' d2∧PermIn p (m+j) d' d2):=⟨h3,h4,h5⟩;clear h3 h4 h5 S2)
   obtain⟨q1,q2,q3,q4,q5,q6⟩:=HQ.out
   have p1:=HPE.out
   refine⟨⟨k,j,d2,by omega,q4,by omega,q6,rfl,rfl,H5.out.1,H5.out.2.2.1.trans HD.out.2.1,HPM.out _ _ _ (by omega) (by omega) H5.out.2.2,?_⟩,by simp[intOf];omega⟩
   intro d3 h9
   refine HD.out.2.2.2 d3 (rot_gt (by omega) q2 (d':=d2) (by rw[← p1];exact H5.out.2.1) (by rw[← q1];exact h9))
end Go.Proofs.YtccoobcggbbcialGreatDoor.Stab
