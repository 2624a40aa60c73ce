import Derived.Test.YtccoobcggbbcialGreatDoorGHZ6
import Derived.Test.YtccoobcggbbcialGreatDoorGLa0
import Derived.Sort.LotA
import Derived.Test.YtccoobcggbbcialGreatDoorGXR
import Derived.Shelf.Abstract
import Derived.Maps.AppendAt
import Derived.Deep.AppendLies
namespace Go.Proofs.YtccoobcggbbcialGreatDoor
open Go.ChangeShapes Go.WideShapes Go.ChangeAt Go.RowKit
theorem tqGST2{P:Program}{md:Region.Mode}{ops:Array Oper}{Q:Exit→Act→World→Prop}{S:World→Prop}{i n:Nat}{oi:Oper}{v:Value}{fuel:Nat}{listed:Array Bool}{l:List Value}{ds:List Deferred}{w:World}
  (hy:∀w,S w→(execOp (Act.eval ⟨l.toArray,ds⟩) oi).run P w = .ok (.value v) w) (h:wpAnyH P md ops Q S fuel (listed.setIfInBounds i true) ⟨(l.set n v).toArray,ds⟩ w)
  (hi:ops[i]?=some oi:=by rfl) (hd:oi.dst=some n:=by rfl) (hs:(Region.noSelect ops && Region.free md ops listed i && (Region.ready md ops listed).contains i)=true:=by kernel_rfl)
  (hQ:∀c a w,Q (.panic c) (a.put oi.dst v) w→Q (.panic c) a w:=by exact fun _ _ _ h=>h) (hg:Region.wanted oi (yielded ops l.toArray)=true:=by rfl) (hS:S w:=by assumption):wpAnyH P md ops Q S (fuel+1) listed ⟨l.toArray,ds⟩ w:=by
 simp only[Bool.and_eq_true]at hs
 exact take_at hi hd hs.1.1 hs.1.2 hs.2 hQ (.inl ⟨hg,hy⟩) hS h
end Go.Proofs.YtccoobcggbbcialGreatDoor
namespace Go.Proofs.YtccoobcggbbcialGreatDoor
open Go.ChangeShapes Go.WideShapes Go.ChangeAt Go.RowKit
theorem one_time{hd tl:List Fr}{m:Fr}{h busy w:Int}(hh:heldF tl=h)(hk:(kinds m busy).toNat=1)(h1:Fx (busyAsk h hd m) 1 (some busy))(h2:Fx (qAsk h hd m ((0:Nat):Int)) 0 (some w)):Wst hd m tl (some (max 0 (m.j+w-((0:Nat):Int)*m.t+m.c))):=by
 subst hh
 refine .some h1 ?_
 rw[hk]
 exact .next .zero h2
theorem msg0:TmA [⟨3,20,20,0⟩] [3] (0,0):=by
 refine .inr ⟨by decide,.inl ⟨⟨by decide,fun i m v h1 h2=>?_⟩,rfl,rfl⟩⟩
 rcases i with _|i
 ·simp at h1 h2
  subst h1 h2
  refine⟨one_time (h:=0) (busy:=3) (w:=0) (by decide) (by decide) ⟨by decide,by decide,by decide,fun v a b e=>?_⟩ ⟨by decide,by decide,by decide,fun v a b e=>?_⟩,by decide⟩
  ·simp[busyAsk,sumF,upF]at e;omega
  ·simp[qAsk,sumF]at e;omega
 ·simp at h1
theorem msg2:TmA [⟨3,20,20,2⟩] [5] (0,0):=by
 refine .inr ⟨by decide,.inl ⟨⟨by decide,fun i m v h1 h2=>?_⟩,rfl,rfl⟩⟩
 rcases i with _|i
 ·simp at h1 h2
  subst h1 h2
  refine⟨one_time (h:=0) (busy:=3) (w:=0) (by decide) (by decide) ⟨by decide,by decide,by decide,fun v a b e=>?_⟩ ⟨by decide,by decide,by decide,fun v a b e=>?_⟩,by decide⟩
  ·simp[busyAsk,sumF,upF]at e;omega
  ·simp[qAsk,sumF]at e;omega
 ·simp at h1
theorem lat_0:LatR ptsF [0,0,0,0] (some [0,3,0,0]):=.inr ⟨by decide,[3],(0,0),msg0,.inr ⟨rfl,rfl⟩⟩
theorem lat_1:LatR ptsF [2,8,1,3] (some [0,5,0,1]):=.inr ⟨by decide,[5],(0,0),msg2,.inr ⟨rfl,rfl⟩⟩
theorem lat_2:LatR ptsF [2,10,1,4] (some [0,5,0,1]):=.inr ⟨by decide,[5],(0,0),msg2,.inr ⟨rfl,rfl⟩⟩
set_option maxRecDepth 100000 in
theorem rsp_0:respC ptsF [0,3,0,0] 4=some [2,8,1,3]:=by kernel_rfl
set_option maxRecDepth 100000 in
theorem rsp_1:respC ptsF [0,5,0,1] 4=some [2,10,1,4]:=by kernel_rfl
theorem sett_closed:Sett ptsF [0,0,0,0] (some [2,10,1,4]):=by
 refine .go (nx:=[2,8,1,3]) ⟨_,lat_0,.inr ⟨_,rfl,rsp_0.symm⟩⟩ (by decide) ?_
 refine .go (nx:=[2,10,1,4]) ⟨_,lat_1,.inr ⟨_,rfl,rsp_1.symm⟩⟩ (by decide) ?_
 exact .fix ⟨_,lat_2,.inr ⟨_,rfl,rsp_1.symm⟩⟩
theorem resps_closed:RespsR ptsF [2,10,1,4] (0,0):=.inr ⟨by rw[chkP_closed],some [2,10,1,4],sett_closed,.inr ⟨rfl,rfl,rfl⟩⟩
end Go.Proofs.YtccoobcggbbcialGreatDoor
namespace Go.Proofs.YtccoobcggbbcialGreatDoor
open Go.ChangeShapes Go.WideShapes Go.ChangeAt Go.RowKit Go.Sort
structure Ro where
 xs:List Int
 v:Value
def Ro.vals(x:Ro):List Value:=[x.v]
theorem Ro.len(x:Ro):x.vals.length=1:=rfl
def TabSl(w:World)(l:List Ro)(v:Value):Prop:=RowSl Ro.vals w l v∧∀x∈l,RowSl nuV w x.xs x.v
theorem TabSl.below{w w':World}{l:List Ro}{v:Value}(h:TabSl w l v)(hb:Below w.heap.size w w'):TabSl w' l v:=⟨h.1.below hb,fun x hx=>(h.2 x hx).below hb⟩
theorem ro_at{w:World}{l:List Ro}{b o j:Nat}{x:Ro}(h:∀q u,(l.flatMap Ro.vals)[q]?=some u→w.cell? ⟨b,o+q,none⟩=some u)(hj:l[j]?=some x):w.cell? ⟨b,o+j,none⟩=some x.v:=by
 have:=h _ _ ((flat_at Ro.vals 1 Ro.len l j 0 x hj (by omega)).trans (rfl:x.vals[0]?=some x.v))
 simpa using this
theorem TabSl.nil(w:World):TabSl w [] (.slice none 0 0):=⟨RowSl.nil _ _,fun x hx=>by simp at hx⟩
theorem zip_tab:∀(a:List (List Int)) (b:List Value),a.length=b.length→(List.zipWith Ro.mk a b).flatMap Ro.vals=b∧(List.zipWith Ro.mk a b).map Ro.xs=a∧(List.zipWith Ro.mk a b).length=b.length
 | [],[],_=>⟨rfl,rfl,rfl⟩
 | x::a,y::b,h=>by
  obtain⟨h1,h2,h3⟩:=zip_tab a b (by simpa using h)
  refine⟨?_,?_,?_⟩
  ·rw[List.zipWith_cons_cons,List.flatMap_cons,h1]
   rfl
  ·show x::_=_
   rw[h2]
  ·show _+1=_+1
   rw[h3]
 | [],y::b,h=>by simp at h
 | x::a,[],h=>by simp at h
theorem EnR.row{W:World}{v:Value}{r:List Int}(h:EnR W v r):RowSl nuV W r v:=by
 obtain⟨g,c,ex,rfl,⟨hc,-⟩,hh⟩:=h
 refine⟨_,c,rfl,(fun e=>by cases e),hc,.inr ⟨g,0,rfl,fun q u hq=>?_⟩⟩
 rw[flat_nuN]at hq
 rw[Nat.zero_add]
 exact(cells_of hh).1 q u (by rw[List.getElem?_append_left (List.getElem?_eq_some_iff.1 hq).1];exact hq)
theorem tab_of{W:World}{gE:Nat}{ev:List Value}{ends:List (List Int)}(h:W.heap[gE]?=some (.cells ev.toArray 25 (0,0)))(hl:ends.length=ev.length)(he:∀(i:Nat) (v:Value),ev[i]?=some v→EnR W v (ends.getD i [])):TabSl W (List.zipWith Ro.mk ends ev) (.slice (some ⟨gE,0,none⟩) ev.length ev.length):=by
 obtain⟨h1,h2,h3⟩:=zip_tab ends ev hl
 refine⟨⟨_,_,by rw[h3],(fun e=>by cases e),Nat.le_of_eq h3,.inr ⟨gE,0,rfl,fun q u hq=>?_⟩⟩,fun x hx=>?_⟩
 ·rw[h1]at hq
  rw[Nat.zero_add]
  exact(cells_of h).1 q u hq
 ·obtain⟨i,hi⟩:=List.mem_iff_getElem?.1 hx
  rw[List.getElem?_zipWith]at hi
  cases ha:ends[i]? with
  | none=>rw[ha]at hi;simp at hi
  | some a =>
   cases hb:ev[i]? with
   | none=>rw[ha,hb]at hi;simp at hi
   | some b =>
    rw[ha,hb]at hi
    cases hi
    have:=he i b hb
    rw[List.getD_eq_getElem?_getD,ha]at this
    exact this.row
set_option maxRecDepth 20000 in
set_option maxHeartbeats 4000000 in
theorem Tables_any(w:World)(l l':List Ro)(v v':Value)(he:l.map Ro.xs=l'.map Ro.xs)(hl:l.length≤5000)(hs:∀x∈l,x.xs.length≤4194304)(hv:TabSl w l v)(hv':TabSl w l' v') :
  Calls Tryz.prog 24 #[v,v'] w fun r w'=>r = .returned (.bool true)∧Below w.heap.size w w':=by
 obtain⟨⟨ad,c,rfl,-,hcap,hrow⟩,hacts⟩:=hv
 obtain⟨⟨ad',c',rfl,-,hcap',hrow'⟩,hacts'⟩:=hv'
 have hle:l'.length=l.length:=by have:=congrArg List.length he;simpa using this.symm
 rw[hle]at hcap' ⊢
 have HR:Hid ((∀W,Below w.heap.size w W→(l=[]∨∃b o,ad=some ⟨b,o,none⟩∧∀q u,(l.flatMap Ro.vals)[q]?=some u→W.cell? ⟨b,o+q,none⟩=some u))∧(∀x∈l,RowSl nuV w x.xs x.v)∧(∀x∈l,x.xs.length≤4194304)∧(∀W,Below w.heap.size w W→(l'=[]∨∃b o,ad'=some ⟨b,o,none⟩∧∀q u,(l'.flatMap Ro.vals)[q]?=some u→W.cell? ⟨b,o+q,none⟩=some u))∧(∀x∈l',RowSl nuV w x.xs x.v)∧l.map Ro.xs=l'.map Ro.xs∧l'.length=l.length):=⟨fun W hb=>hrow.imp id (fun⟨b,o,e,h⟩=>⟨b,o,e,fun q u hq=>below_cell hb (h q u hq)⟩),hacts,hs,fun W hb=>hrow'.imp id (fun⟨b,o,e,h⟩=>⟨b,o,e,fun q u hq=>below_cell hb (h q u hq)⟩),hacts',he,hle⟩
 clear hrow hacts hs hrow' hacts' he hle
 go_enter Tryz.func24,Tryz.ntmps24
 go_wp2_with fail
 go_loopw [13] (fun i wr=>∃(j:Nat),j≤l.length∧i = .int .i64 j∧Below w.heap.size w wr) (fun i _=>l.length-(intOf i).toNat)
 case atStart=>exact⟨0,Nat.zero_le _,rfl,Below.refl _ _⟩
 case round =>
  obtain⟨j,hj,rfl,hb⟩:=hrel
  have HB:Hid (Below w.heap.size w wr):=hb
  by_cases hlt:j<l.length
  ·obtain⟨x,hx,-⟩:=drop_at hlt
   obtain⟨y,hy,-⟩:=drop_at (show j<l'.length by have:=HR.out.2.2.2.2.2.2;omega)
   rcases HR.out.1 wr hb with h|⟨b,o,rfl,hrow⟩
   ·rw[h]at hlt;simp at hlt
   rcases HR.out.2.2.2.1 wr hb with h|⟨b',o',rfl,hrow'⟩
   ·have:=HR.out.2.2.2.2.2.2;rw[h]at this;simp at this;omega
   have c0:=ro_at hrow hx
   have c1:=ro_at hrow' hy
   have hxy:y.xs=x.xs:=by
    have h7:=congrArg (·[j]?) HR.out.2.2.2.2.2.1
    simp only[List.getElem?_map,hx,hy,Option.map_some,Option.some.injEq]at h7
    exact h7.symm
   have r0:=(HR.out.2.1 x (List.mem_of_getElem? hx)).below hb
   have r1:=(HR.out.2.2.2.2.1 y (List.mem_of_getElem? hy)).below hb
   rw[hxy]at r1
   have hsz:=HR.out.2.2.1 x (List.mem_of_getElem? hx)
   have HS:Hid (∀W,Below wr.heap.size wr W→Calls Tryz.prog 30 #[x.v,y.v] W fun r w'=>r = .returned (.bool true)∧Below W.heap.size W w'):=fun W hW=>(SmN_any W x.xs x.xs x.v y.v hsz rfl (r0.below hW) (r1.below hW)).mono (by
    rintro r w' ⟨h1,h2⟩
    exact⟨by simpa using h1,h2⟩)
   obtain⟨xa,xc,hxe⟩:=r0.len
   obtain⟨ya,yc,hye⟩:=r1.len
   rw[hxe]at c0
   rw[hye]at c1
   rw[hxe,hye]at HS
   have lb:b<wr.heap.size:=World.block_lt_of_cell? _ _ c0
   have lb':b'<wr.heap.size:=World.block_lt_of_cell? _ _ c1
   have hji:(j:Int)<(l.length:Int):=by omega
   clear hrow hrow' hb hx hy hxy r0 r1 hsz hxe hye
   generalize x.xs.length=xn at *
   go_wp2_with fail
   refine wp_region_noPanic ?_
   refine wp_region_held_drew (S:=fun w'=>w'.cell? ⟨b,o+j,none⟩=some (.slice xa xn xc)∧w'.cell? ⟨b',o'+j,none⟩=some (.slice ya xn yc)) (by kernel_rfl) ⟨by go_simp,by go_simp⟩ (fun hHeld=>?_)
   refine tqGST2 (i:=0) (n:=16) (v:=?_) ?_ ?_
   rotate_left 1
   ·intro wz hSw
    obtain⟨k0,k1⟩:=hSw
    first|(go_simp;done)|(go_simp;with_reducible rfl)
   simp only[ls0,ls1]
   refine tqGST2 (i:=1) (n:=17) (v:=?_) ?_ ?_
   rotate_left 1
   ·intro wz hSw
    obtain⟨k0,k1⟩:=hSw
    first|(go_simp;done)|(go_simp;with_reducible rfl)
   simp only[ls0,ls1]
   refine tqGST2 (i:=2) (n:=18) (v:=?_) ?_ ?_
   rotate_left 1
   ·intro wz hSw
    obtain⟨k0,k1⟩:=hSw
    first|(go_simp;done)|(go_simp;with_reducible rfl)
   simp only[ls0,ls1]
   refine tqGST2 (i:=3) (n:=19) (v:=?_) ?_ ?_
   rotate_left 1
   ·intro wz hSw
    obtain⟨k0,k1⟩:=hSw
    first|(go_simp;done)|(go_simp;with_reducible rfl)
   simp only[ls0,ls1]
   refine tqGST2 (i:=4) (n:=20) (v:=?_) ?_ ?_
   rotate_left 1
   ·intro wz hSw
    obtain⟨k0,k1⟩:=hSw
    first|(go_simp;done)|(go_simp;with_reducible rfl)
   simp only[ls0,ls1]
   refine tqGST2 (i:=5) (n:=21) (v:=?_) ?_ ?_
   rotate_left 1
   ·intro wz hSw
    obtain⟨k0,k1⟩:=hSw
    first|(go_simp;done)|(go_simp;with_reducible rfl)
   simp only[ls0,ls1]
   refine tqGST2 (i:=6) (n:=22) (v:=?_) ?_ ?_
   rotate_left 1
   ·intro wz hSw
    obtain⟨k0,k1⟩:=hSw
    first|(go_simp;done)|(go_simp;with_reducible rfl)
   simp only[ls0,ls1]
   refine tqGST2 (i:=7) (n:=23) (v:=?_) ?_ ?_
   rotate_left 1
   ·intro wz hSw
    obtain⟨k0,k1⟩:=hSw
    first|(go_simp;done)|(go_simp;with_reducible rfl)
   simp only[ls0,ls1]
   refine wpAnyH_ready (rs:=[8]) (by kernel_rfl) (by simp) ?_
   refine AllReadyH.cons rfl (fun K hK=>?_) AllReadyH.nil
   go_simp
   go_wp2_with (go_at_call 30;refine(HS.out _ (Below.refl _ _).drew).mono ?_;rintro r w5 ⟨rfl,hb5⟩)
   have H5:Hid (Below wr.heap.size wr w5):=below_seq (Below.refl _ _).drew hb5
   refine hK.out _ _ ⟨below_cell H5.out c0,below_cell H5.out c1⟩ (fun hHeld=>?_)
   clear hb5
   clear hK K
   try simp only[ls0,ls1]
   refine tqGST2 (i:=9) (n:=25) (v:=?_) ?_ ?_
   rotate_left 1
   ·intro wz hSw
    obtain⟨k0,k1⟩:=hSw
    first|(go_simp;done)|(go_simp;with_reducible rfl)
   simp only[ls0,ls1]
   refine wpAnyH_done (by kernel_rfl) ?_ _
   refine NoPanic.normal ?_
   clear hHeld
   go_wp2_with fail
   exact⟨⟨j+1,by omega,by simp,below_seq HB.out H5.out⟩,by simp[intOf];omega⟩
  ·have hje:j=l.length:=by omega
   subst hje
   go_wp2_with fail
   go_ret
   exact⟨rfl,hb⟩
theorem play_closed(w:World)(pv cv:Value)(hp:RowSl Pa.vals w ptsF pv)(hc:RowSl Co.vals w csF cv):Calls Tryz.prog 22 #[pv,cv,.slice none 0 0,.int .i64 30] w (PlayPost w ptsF csF [] 30 [0,1]):=by
 refine Play_any w ptsF csF [] 30 pv cv (.slice none 0 0) [0,1] hp hc (RowSl.nil _ _) (by decide) (by decide) rfl (by decide) (fun W hb=>?_)
 have hc':=hc.below hb
 refine inTime_any W csF cv [0,1] hc' (by decide) rfl (fun W' g bS hb' h2 hlt hle hN=>?_)
 have h:=insC_any W' csF cv bS g (by decide) (hc'.below hb') h2 (by omega) (fun ad c e b o ead=>by
  obtain⟨ad',c',e',-,-,h⟩:=hc'
  rw[e']at e
  injection e with e1
  subst e1 ead
  rcases h with h|⟨b',o',e2,h⟩
  ·cases h
  ·injection e2 with e2
   injection e2 with e2
   subst e2
   have h8:b<W.heap.size:=World.block_lt_of_cell? _ _ (h 0 _ rfl)
   omega) hN
 rw[insO_closed]at h
 refine h.mono ?_
 rintro r W2 ⟨rfl,h1,h3⟩
 exact⟨rfl,h1,grownBy_below h3 hb'.size (by intro q hq;cases hq;omega)⟩
theorem row_newC{α:Type}{f:α→List Value}(W:World)(l:List α)(n:Nat)(cs:Array Value)(e:TypeId)(hn:n=l.length)(hc:cs=(l.flatMap f).toArray):RowSl f (W.alloc (.cells cs e)) l (.slice (some ⟨W.heap.size,0,none⟩) n n):=by
 subst hn hc
 refine⟨_,_,rfl,(fun e=>by cases e),Nat.le_refl _,.inr ⟨_,0,rfl,fun q u hq=>?_⟩⟩
 rw[Nat.zero_add]
 exact(cells_of (heap_alloc_new _ _)).1 q u hq
set_option maxRecDepth 20000 in
theorem parts_any(w:World):Calls Tryz.prog 52 #[] w fun r w'=>∃v,r = .returned v∧RowSl Pa.vals w' ptsF v∧Below w.heap.size w w':=by
 go_enter Tryz.func52,Tryz.ntmps52
 go_wp2_with fail
 go_ret
 exact⟨_,rfl,row_newC (f:=Pa.vals) w ptsF 4 _ _ rfl rfl,below_new _ _⟩
def FL(W:World)(G:Nat)(z1 z2:Int):Prop:=W.heap[G]?=some (.cells #[.int .i64 z1,.int .i64 z2] 33 (0,0))
theorem FL.grow{W W':World}{G:Nat}{z1 z2:Int}(h:FL W G z1 z2)(hb:Below W.heap.size W W'):FL W' G z1 z2:=(hb.block G (Array.getElem?_eq_some_iff.1 h).1).trans h
theorem FL.new(W:World)(z1 z2:Int):FL (W.alloc (.cells #[.int .i64 z1,.int .i64 z2] 33)) W.heap.size z1 z2:=heap_alloc_new _ _
theorem FL.cells{W:World}{G:Nat}{z1 z2:Int}(h:FL W G z1 z2):W.cell? ⟨G,0,none⟩=some (.int .i64 z1)∧W.cell? ⟨G,1,none⟩=some (.int .i64 z2)∧G<W.heap.size:=by
 obtain⟨c1,f1,l1⟩:=cells_of (l:=[_,_]) h
 exact⟨c1 0 _ rfl,c1 1 _ rfl,l1⟩
def endsF:List (List Int):=[[2,9,-1,-1],[-1,-1,5,6]]
theorem play_tab(w:World)(pv cv:Value)(hp:RowSl Pa.vals w ptsF pv)(hc:RowSl Co.vals w csF cv):Calls Tryz.prog 22 #[pv,cv,.slice none 0 0,.int .i64 30] w fun r w'=>∃gE l,r = .returned (.tuple #[.slice (some ⟨gE,0,none⟩) 2 2,.agg #[.int .i64 0,.int .i64 0]])∧TabSl w' l (.slice (some ⟨gE,0,none⟩) 2 2)∧l.map Ro.xs=endsF∧Below w.heap.size w w':=by
 refine(play_closed w pv cv hp hc).mono ?_
 rintro r w' (⟨h,-⟩|⟨-,gE,ev,rfl,hg,hl,he,-,-,hb⟩)
 ·exact absurd (by rw[chk_closed]) h
 ·rw[show(playTo ptsF [] csF [0,1] (30:Int).toNat).2.ends=endsF from ends_closed]at he
  have hl2:endsF.length=ev.length:=hl.symm
  have h2:ev.length=2:=hl
  have h9:=tab_of hg hl2 he
  rw[h2]at h9
  exact⟨gE,_,rfl,h9,(zip_tab _ _ hl2).2.1,hb⟩
def litL(W:World):List Ro:=[⟨[2,9,-1,-1],.slice (some ⟨W.heap.size,0,none⟩) 4 4⟩,⟨[-1,-1,5,6],.slice (some ⟨W.heap.size+1,0,none⟩) 4 4⟩]
theorem lit_xs(W:World):(litL W).map Ro.xs=endsF:=rfl
theorem lit_tab(W:World):TabSl (((W.alloc (.cells #[.int .i64 2,.int .i64 9,.int .i64 (-1),.int .i64 (-1)] 3)).alloc (.cells #[.int .i64 (-1),.int .i64 (-1),.int .i64 5,.int .i64 6] 3)).alloc (.cells #[.slice (some ⟨W.heap.size,0,none⟩) 4 4,.slice (some ⟨W.heap.size+1,0,none⟩) 4 4] 25)) [⟨[2,9,-1,-1],.slice (some ⟨W.heap.size,0,none⟩) 4 4⟩,⟨[-1,-1,5,6],.slice (some ⟨W.heap.size+1,0,none⟩) 4 4⟩] (.slice (some ⟨W.heap.size+1+1,0,none⟩) 2 2):=by
 have r1:=row_newC (f:=nuV) W [2,9,-1,-1] 4 #[.int .i64 2,.int .i64 9,.int .i64 (-1),.int .i64 (-1)] 3 rfl rfl
 have r2:=row_newC (f:=nuV) (W.alloc (.cells #[.int .i64 2,.int .i64 9,.int .i64 (-1),.int .i64 (-1)] 3)) [-1,-1,5,6] 4 #[.int .i64 (-1),.int .i64 (-1),.int .i64 5,.int .i64 6] 3 rfl rfl
 have r3:=row_newC (f:=Ro.vals) ((W.alloc (.cells #[.int .i64 2,.int .i64 9,.int .i64 (-1),.int .i64 (-1)] 3)).alloc (.cells #[.int .i64 (-1),.int .i64 (-1),.int .i64 5,.int .i64 6] 3)) [⟨[2,9,-1,-1],.slice (some ⟨W.heap.size,0,none⟩) 4 4⟩,⟨[-1,-1,5,6],.slice (some ⟨W.heap.size+1,0,none⟩) 4 4⟩] 2 #[.slice (some ⟨W.heap.size,0,none⟩) 4 4,.slice (some ⟨W.heap.size+1,0,none⟩) 4 4] 25 rfl rfl
 rw[World.size_alloc,World.size_alloc]at r3
 rw[World.size_alloc]at r2
 refine⟨r3,fun x hx=>?_⟩
 simp only[List.mem_cons,List.not_mem_nil,or_false]at hx
 rcases hx with rfl|rfl
 ·exact(r1.below (below_new _ _)).below (below_new _ _)
 ·exact r2.below (below_new _ _)
structure CA (w W:World) (gf:Nat) (tv:Value):Prop where
 bel:Below w.heap.size w W
 f:FL W gf 0 0
 r:RowSl nuV W [2,10,1,4] tv
theorem CA.grow{w W W':World}{gf:Nat}{tv:Value}(h:CA w W gf tv)(hb:Below W.heap.size W W'):CA w W' gf tv:=⟨below_seq h.bel hb,h.f.grow hb,h.r.below hb⟩
set_option maxRecDepth 20000 in
set_option maxHeartbeats 4000000 in
theorem chained_any(w:World):Calls Tryz.prog 16 #[] w fun r w'=>r = .returned (.bool true)∧Below w.heap.size w w':=by
 have R1:=parts_any w
 go_enter Tryz.func16,Tryz.ntmps16
 go_upto_region 2 with (first
  | (go_at_call 51;refine R2.mono ?_;rintro r w2 ⟨ts,e,tv,hR,rfl,ht,hb2,-⟩;obtain⟨hts,he⟩:=RespsR.one resps_closed hR;subst hts;subst he;have A1:Hid (CA w (w2.alloc (.cells #[.int .i64 0,.int .i64 0] 33)) w2.heap.size tv):=⟨below_seq (below_seq hb1 hb2) (below_new _ _),FL.new _ _ _,ht.below (below_new _ _)⟩;clear hb1 hb2 ht hR R2)
  | (go_at_call 52;refine R1.mono ?_;rintro r w1 ⟨v1,rfl,hr1,hb1⟩;have R2:=RespsC_any w1 ptsF v1 hr1;obtain⟨a1,c1,rfl⟩:=hr1.len;clear hr1 R1))
 generalize (w2.alloc (.cells #[.int .i64 0,.int .i64 0] 33))=w3 at *
 generalize w2.heap.size=g2 at *
 have R3:=parts_any w3
 go_upto_region 3 with (first
  | (go_at_call 22;refine R5.mono ?_;rintro r w5 ⟨gE,tl,rfl,htab,htl,hb5⟩;have A2:Hid (CA w (w5.alloc (.cells #[.int .i64 0,.int .i64 0] 33)) g2 tv∧FL (w5.alloc (.cells #[.int .i64 0,.int .i64 0] 33)) w5.heap.size 0 0∧TabSl (w5.alloc (.cells #[.int .i64 0,.int .i64 0] 33)) tl (.slice (some ⟨gE,0,none⟩) 2 2)∧tl.map Ro.xs=endsF):=⟨A1.out.grow (below_seq (below_seq (below_seq hb4 (below_new _ _)) hb5) (below_new _ _)),FL.new _ _ _,htab.below (below_new _ _),htl⟩;clear hb4 hb5 htab htl R5 A1)
  | (go_at_call 52;refine R3.mono ?_;rintro r w4 ⟨v4,rfl,hr4,hb4⟩;have R5:=play_tab (w4.alloc (.cells #[.int .i64 0,.int .i64 0,.int .i64 2,.int .i64 4] 49)) v4 (.slice (some ⟨w4.heap.size,0,none⟩) 2 2) (hr4.below (below_new _ _)) (row_newC (f:=Co.vals) w4 csF 2 _ _ rfl rfl);obtain⟨a4,c4,rfl⟩:=hr4.len;clear hr4 R3))
 generalize (w5.alloc (.cells #[.int .i64 0,.int .i64 0] 33))=w6 at *
 generalize w5.heap.size=g5 at *
 obtain⟨x0,-,x2⟩:=A2.out.1.f.cells
 obtain⟨y0,-,y2⟩:=A2.out.2.1.cells
 have S1:=SmN_any (w6.alloc (.cells #[.int .i64 2,.int .i64 10,.int .i64 1,.int .i64 4] 3)) [2,10,1,4] [2,10,1,4] tv (.slice (some ⟨w6.heap.size,0,none⟩) 4 4) (by decide) rfl (A2.out.1.r.below (below_new _ _)) (row_newC (f:=nuV) w6 [2,10,1,4] 4 _ _ rfl rfl)
 rw[show decide (([2,10,1,4]:List Int)=[2,10,1,4])=true from by decide]at S1
 go_wp2_with (first
  | (go_at_call 24;refine S2.mono ?_;rintro r w8 ⟨rfl,hb8⟩;have H8:Hid (Below w.heap.size w w8):=below_seq (below_seq (below_seq A2.out.1.bel hb7) (below_seq (below_seq (below_new _ _) (below_new _ _)) (below_new _ _))) hb8;clear hb7 hb8 S2)
  | (go_at_call 30;refine S1.mono ?_;rintro r w7 ⟨rfl,hb7'⟩;have hb7:=below_seq (below_new w6 (.cells #[.int .i64 2,.int .i64 10,.int .i64 1,.int .i64 4] 3)) hb7';have S2:=Tables_any _ tl (litL w7) _ _ (A2.out.2.2.2.trans (lit_xs w7).symm) (by have:=congrArg List.length A2.out.2.2.2;simp[endsF]at this;omega) (fun x hx=>by have:=List.mem_map_of_mem (f:=Ro.xs) hx;rw[A2.out.2.2.2]at this;simp[endsF]at this;rcases this with h|h<;>rw[h]<;>decide) (A2.out.2.2.1.below (below_seq hb7 (below_seq (below_seq (below_new _ _) (below_new _ _)) (below_new _ _)))) (lit_tab w7);clear hb7' S1))
 go_ret
 exact⟨rfl,H8.out⟩
end Go.Proofs.YtccoobcggbbcialGreatDoor
namespace Go.Proofs.YtccoobcggbbcialGreatDoor.Stab
open Go.Sort (swp swp_get swp_size SWO SWO.asymmA PermIn permIn_refl permIn_trans permIn_mono permIn_all swp_permIn)
variable {α:Type} [Inhabited α] {lt:α→α→Bool} {ix:α→Nat}
omit [Inhabited α] in
def Bef(lt:α→α→Bool)(ix:α→Nat)(x y:α):Prop:=lt x y=true∨(lt y x=false∧ix x<ix y)
omit [Inhabited α] in
theorem Bef.trans(hS:SWO lt){x y z:α}(h1:Bef lt ix x y)(h2:Bef lt ix y z):Bef lt ix x z:=by
 rcases h1 with h1|⟨h1,i1⟩<;>rcases h2 with h2|⟨h2,i2⟩
 ·exact .inl (hS.trans _ _ _ h1 h2)
 ·refine .inl ?_
  cases h:lt x z with
  | true=>rfl
  | false=>rw[hS.ntrans x z y h h2]at h1;cases h1
 ·refine .inl ?_
  cases h:lt x z with
  | true=>rfl
  | false=>rw[hS.ntrans y x z h1 h]at h2;cases h2
 ·exact .inr ⟨hS.ntrans z y x h2 h1,by omega⟩
omit [Inhabited α] in
def Asc(lt:α→α→Bool)(ix:α→Nat)(a b:Nat)(d:Array α):Prop:=∀p q,a≤p→p<q→q<b→Bef lt ix d[p]! d[q]!
def Cross(ix:α→Nat)(a m b:Nat)(d:Array α):Prop:=∀p q,a≤p→p<m→m≤q→q<b→ix d[p]!<ix d[q]!
structure InsB (lt:α→α→Bool) (ix:α→Nat) (a j i:Nat) (d:Array α):Prop where
 rest:∀p q,a≤p→p<q→q≤i→p≠j→q≠j→Bef lt ix d[p]! d[q]!
 right:∀q,j<q→q≤i→Bef lt ix d[j]! d[q]!
 late:∀p,a≤p→p≤i→p≠j→ix d[p]!<ix d[j]!
theorem InsB.start{a i:Nat}{d:Array α}(h:Asc lt ix a i d)(hl:∀p,a≤p→p<i→ix d[p]!<ix d[i]!):InsB lt ix a i i d :=
 ⟨fun p q h1 h2 h3 _ h5=>h p q h1 h2 (by omega),fun q h1 h2=>by omega,fun p h1 h2 h3=>hl p h1 (by omega)⟩
theorem InsB.step{a j i:Nat}{d:Array α}(h:InsB lt ix a (j+1) i d)(hl:lt d[j+1]! d[j]! =true)(haj:a≤j)(hji:j+1≤i)(hsz:i<d.size):InsB lt ix a j i (swp d (j+1) j):=by
 have g:=swp_get d (show j+1<d.size by omega) (show j<d.size by omega)
 refine⟨fun p q h1 h2 h3 h4 h5=>?_,fun q h1 h2=>?_,fun p h1 h2 h3=>?_⟩
 ·rw[g,g,if_neg h4,if_neg h5]
  by_cases hq:q=j+1
  ·rw[if_pos hq,if_neg (by omega)]
   exact h.rest p j h1 (by omega) (by omega) (by omega) (by omega)
  ·rw[if_neg hq]
   by_cases hp:p=j+1
   ·rw[if_pos hp]
    exact h.rest j q haj (by omega) h3 (by omega) hq
   ·rw[if_neg hp]
    exact h.rest p q h1 h2 h3 hp hq
 ·rw[g,g,if_pos rfl,if_neg (by omega)]
  by_cases hq:q=j+1
  ·rw[if_pos hq]
   exact .inl hl
  ·rw[if_neg hq]
   exact h.right q (by omega) h2
 ·rw[g,g,if_pos rfl,if_neg h3]
  by_cases hp:p=j+1
  ·rw[if_pos hp]
   exact h.late j haj (by omega) (by omega)
  ·rw[if_neg hp]
   exact h.late p h1 h2 hp
theorem InsB.stop(hS:SWO lt){a j i:Nat}{d:Array α}(h:InsB lt ix a j i d)(hs:j≤a∨lt d[j]! d[j-1]! =false)(hji:j≤i):Asc lt ix a (i+1) d:=by
 intro p q h1 h2 h3
 by_cases hq:q=j
 ·subst hq
  rcases hs with hs|hs
  ·omega
  have h9:Bef lt ix d[q-1]! d[q]!:=.inr ⟨hs,h.late (q-1) (by omega) (by omega) (by omega)⟩
  by_cases hp:p=q-1
  ·rw[hp];exact h9
  ·exact(h.rest p (q-1) h1 (by omega) (by omega) (by omega) (by omega)).trans hS h9
 ·by_cases hp:p=j
  ·subst hp
   exact h.right q h2 (by omega)
  ·exact h.rest p q h1 h2 (by omega) hp hq
def Up(a k:Nat)(d d':Array α):Prop:=d'.size=d.size∧∀p,d'[p]! =if a≤p∧p<k then d[p+1]! else if p=k then d[a]! else d[p]!
def Dn(m k:Nat)(d d':Array α):Prop:=d'.size=d.size∧∀p,d'[p]! =if k<p∧p≤m then d[p-1]! else if p=k then d[m]! else d[p]!
theorem Up.refl(a:Nat)(d:Array α):Up a a d d:=⟨rfl,fun p=>by
 rw[if_neg (by omega)]
 split
 ·next h=>rw[h]
 ·rfl⟩
theorem Dn.refl(m:Nat)(d:Array α):Dn m m d d:=⟨rfl,fun p=>by
 rw[if_neg (by omega)]
 split
 ·next h=>rw[h]
 ·rfl⟩
theorem Up.step{a k:Nat}{d d':Array α}(h:Up a k d d')(hak:a≤k)(hk:k+1<d.size):Up a (k+1) d (swp d' k (k+1)):=by
 refine⟨by rw[swp_size,h.1],fun p=>?_⟩
 rw[swp_get d' (by rw[h.1];omega) (by rw[h.1];omega),h.2,h.2,h.2]
 by_cases h1:p=k+1
 ·rw[if_pos h1,if_neg (by omega),if_pos rfl,if_neg (by omega),if_pos h1]
 ·rw[if_neg h1]
  by_cases h2:p=k
  ·subst h2
   rw[if_pos rfl,if_neg (by omega),if_neg (by omega),if_pos (by omega)]
  ·rw[if_neg h2]
   by_cases h3:a≤p∧p<k
   ·rw[if_pos h3,if_pos (by omega)]
   ·rw[if_neg h3,if_neg h2,if_neg (by omega),if_neg h1]
theorem Dn.step{m k:Nat}{d d':Array α}(h:Dn m (k+1) d d')(hkm:k+1≤m)(hm:m<d.size):Dn m k d (swp d' (k+1) k):=by
 refine⟨by rw[swp_size,h.1],fun p=>?_⟩
 rw[swp_get d' (by rw[h.1];omega) (by rw[h.1];omega),h.2,h.2,h.2]
 by_cases h1:p=k
 ·subst h1
  rw[if_pos rfl,if_neg (by omega),if_pos rfl,if_neg (by omega),if_pos rfl]
 ·rw[if_neg h1]
  by_cases h2:p=k+1
  ·subst h2
   rw[if_pos rfl,if_neg (by omega),if_neg (by omega),if_pos (by omega),Nat.add_sub_cancel]
  ·rw[if_neg h2]
   by_cases h3:k+1<p∧p≤m
   ·rw[if_pos h3,if_pos (by omega)]
   ·rw[if_neg h3,if_neg h2,if_neg (by omega),if_neg h1]
theorem asc_up(hS:SWO lt){a i b:Nat}{d d':Array α}(h:Up a (i-1) d d')(hA:Asc lt ix (a+1) b d)(h1:a+1≤i)(h2:i≤b)(h3:i=a+1∨Bef lt ix d[i-1]! d[a]!)(h4:i=b∨Bef lt ix d[a]! d[i]!):Asc lt ix a b d':=by
 intro p q hp hpq hq
 rw[h.2,h.2]
 have lo:∀x,a+1≤x→x≤i-1→Bef lt ix d[x]! d[a]!:=fun x hx hx2=>by
  rcases h3 with h3|h3
  ·omega
  ·by_cases e:x=i-1
   ·rw[e];exact h3
   ·exact(hA x (i-1) hx (by omega) (by omega)).trans hS h3
 have hi:∀x,i≤x→x<b→Bef lt ix d[a]! d[x]!:=fun x hx hx2=>by
  rcases h4 with h4|h4
  ·omega
  ·by_cases e:x=i
   ·rw[e];exact h4
   ·exact h4.trans hS (hA i x (by omega) (by omega) hx2)
 by_cases c1:p<i-1
 ·rw[if_pos ⟨hp,c1⟩]
  by_cases c2:q<i-1
  ·rw[if_pos ⟨by omega,c2⟩]
   exact hA _ _ (by omega) (by omega) (by omega)
  ·rw[if_neg (by omega)]
   by_cases c3:q=i-1
   ·rw[if_pos c3]
    exact lo _ (by omega) (by omega)
   ·rw[if_neg c3]
    exact hA _ _ (by omega) (by omega) hq
 ·rw[if_neg (by omega),if_neg (show ¬ (a≤q∧q<i-1) by omega),if_neg (show ¬ q=i-1 by omega)]
  by_cases c3:p=i-1
  ·rw[if_pos c3]
   exact hi _ (by omega) hq
  ·rw[if_neg c3]
   exact hA _ _ (by omega) hpq hq
theorem asc_dn(hS:SWO lt){a i m:Nat}{d d':Array α}(h:Dn m i d d')(hA:Asc lt ix a m d)(h1:a≤i)(h2:i≤m)(h3:i=a∨Bef lt ix d[i-1]! d[m]!)(h4:i=m∨Bef lt ix d[m]! d[i]!):Asc lt ix a (m+1) d':=by
 intro p q hp hpq hq
 rw[h.2,h.2]
 have lo:∀x,a≤x→x<i→Bef lt ix d[x]! d[m]!:=fun x hx hx2=>by
  rcases h3 with h3|h3
  ·omega
  ·by_cases e:x=i-1
   ·rw[e];exact h3
   ·exact(hA x (i-1) hx (by omega) (by omega)).trans hS h3
 have hi:∀x,i≤x→x<m→Bef lt ix d[m]! d[x]!:=fun x hx hx2=>by
  rcases h4 with h4|h4
  ·omega
  ·by_cases e:x=i
   ·rw[e];exact h4
   ·exact h4.trans hS (hA i x (by omega) (by omega) hx2)
 by_cases c1:p<i
 ·rw[if_neg (show ¬ (i<p∧p≤m) by omega),if_neg (show ¬ p=i by omega)]
  by_cases c2:q<i
  ·rw[if_neg (by omega),if_neg (by omega)]
   exact hA _ _ hp hpq (by omega)
  ·by_cases c3:q=i
   ·rw[if_neg (by omega),if_pos c3]
    exact lo _ hp c1
   ·rw[if_pos (by omega)]
    exact hA _ _ hp (by omega) (by omega)
 ·rw[if_pos (show i<q∧q≤m by omega)]
  by_cases c3:p=i
  ·rw[if_neg (by omega),if_pos c3]
   exact hi _ (by omega) (by omega)
  ·rw[if_pos (by omega)]
   exact hA _ _ (by omega) (by omega) (by omega)
def Swr(a b n:Nat)(d d':Array α):Prop:=d'.size=d.size∧∀p,d'[p]! =if a≤p∧p<a+n then d[p-a+b]! else if b≤p∧p<b+n then d[p-b+a]! else d[p]!
theorem Swr.refl(a b:Nat)(d:Array α):Swr a b 0 d d:=⟨rfl,fun p=>by rw[if_neg (by omega),if_neg (by omega)]⟩
theorem Swr.step{a b n N:Nat}{d d':Array α}(h:Swr a b n d d')(hn:n<N)(hab:a+N≤b)(hb:b+N≤d.size):Swr a b (n+1) d (swp d' (a+n) (b+n)):=by
 refine⟨by rw[swp_size,h.1],fun p=>?_⟩
 rw[swp_get d' (by rw[h.1];omega) (by rw[h.1];omega),h.2,h.2,h.2]
 by_cases h1:p=b+n
 ·subst h1
  rw[if_pos rfl,if_neg (by omega),if_neg (by omega),if_neg (by omega),if_pos (by omega)]
  congr 1;omega
 ·rw[if_neg h1]
  by_cases h2:p=a+n
  ·subst h2
   rw[if_pos rfl,if_neg (by omega),if_neg (by omega),if_pos (by omega)]
   congr 1;omega
  ·rw[if_neg h2]
   by_cases h3:a≤p∧p<a+n
   ·rw[if_pos h3,if_pos (by omega)]
   ·rw[if_neg h3,if_neg (show ¬ (a≤p∧p<a+(n+1)) by omega)]
    by_cases h4:b≤p∧p<b+n
    ·rw[if_pos h4,if_pos (by omega)]
    ·rw[if_neg h4,if_neg (by omega)]
def Rot(a m b:Nat)(d d':Array α):Prop:=d'.size=d.size∧∀p,d'[p]! =if a≤p∧p<a+(b-m) then d[p-a+m]! else if a+(b-m)≤p∧p<b then d[p-(b-m)]! else d[p]!
theorem Rot.none{a m b:Nat}{d:Array α}(h:a=m∨m=b)(h1:a≤m)(h2:m≤b):Rot a m b d d:=by
 refine⟨rfl,fun p=>?_⟩
 rcases h with rfl|rfl
 ·split
  ·congr 1;omega
  ·rw[if_neg (by omega)]
 ·rw[if_neg (by omega)]
  split
  ·congr 1;omega
  ·rfl
theorem rot_eq{m i:Nat}{d d':Array α}(hi:i≤m)(h:Swr (m-i) m i d d'):Rot (m-i) m (m+i) d d':=by
 refine⟨h.1,fun p=>?_⟩
 rw[h.2]
 by_cases c:m-i≤p∧p<m-i+i
 ·rw[if_pos c,if_pos (by omega)]
 ·rw[if_neg c]
  by_cases c2:m≤p∧p<m+i
  ·rw[if_pos c2,if_neg (by omega),if_pos (by omega)]
   congr 1;omega
  ·rw[if_neg c2,if_neg (by omega),if_neg (by omega)]
theorem rot_gt{m i j:Nat}{d d' d2:Array α}(hi:i≤m)(hij:j<i)(h:Swr (m-i) m j d d')(h2:Rot (m-(i-j)) m (m+j) d' d2):Rot (m-i) m (m+j) d d2:=by
 refine⟨h2.1.trans h.1,fun p=>?_⟩
 rw[h2.2]
 by_cases c:m-(i-j)≤p∧p<m-(i-j)+(m+j-m)
 ·rw[if_pos c,h.2,if_neg (by omega),if_pos (by omega),if_neg (by omega),if_pos (by omega)]
  congr 1;omega
 ·rw[if_neg c]
  by_cases c2:m-(i-j)+(m+j-m)≤p∧p<m+j
  ·rw[if_pos c2,h.2,if_neg (by omega),if_neg (by omega),if_neg (by omega),if_pos (by omega)]
  ·rw[if_neg c2,h.2]
   by_cases c3:m-i≤p∧p<m-i+j
   ·rw[if_pos c3,if_pos (by omega)]
   ·rw[if_neg c3,if_neg (by omega),if_neg (by omega),if_neg (by omega)]
theorem rot_lt{m i j:Nat}{d d' d2:Array α}(hi:i≤m)(hij:i<j)(h:Swr (m-i) (m+j-i) i d d')(h2:Rot (m-i) m (m+(j-i)) d' d2):Rot (m-i) m (m+j) d d2:=by
 refine⟨h2.1.trans h.1,fun p=>?_⟩
 rw[h2.2]
 by_cases c:m-i≤p∧p<m-i+(m+(j-i)-m)
 ·rw[if_pos c,h.2,if_neg (by omega),if_neg (by omega),if_pos (by omega)]
 ·rw[if_neg c]
  by_cases c2:m-i+(m+(j-i)-m)≤p∧p<m+(j-i)
  ·rw[if_pos c2,h.2,if_pos (by omega)]
   by_cases c5:m-i≤p∧p<m-i+(m+j-m)
   ·rw[if_pos c5];congr 1;omega
   ·omega
  ·rw[if_neg c2,h.2]
   by_cases c3:m+j-i≤p∧p<m+j-i+i
   ·rw[if_neg (by omega),if_pos c3,if_neg (by omega),if_pos (by omega)]
    congr 1;omega
   ·rw[if_neg (by omega),if_neg c3,if_neg (by omega),if_neg (by omega)]
structure Sym (lt:α→α→Bool) (ix:α→Nat) (a m b mid s e:Nat) (d d':Array α):Prop where
 lo1:Asc lt ix a s d'
 lo2:Asc lt ix s mid d'
 loc:Cross ix a s mid d'
 hi1:Asc lt ix mid e d'
 hi2:Asc lt ix e b d'
 hic:Cross ix mid e b d'
 mix:∀p q,a≤p→p<mid→mid≤q→q<b→Bef lt ix d'[p]! d'[q]!
theorem sym_of(hS:SWO lt){a m b mid s e:Nat}{d d':Array α}(hm:a<m)(hmid:mid=(a+b) / 2)(he:e+s=mid+m)(h1:Asc lt ix a m d)(h2:Asc lt ix m b d)(hc:Cross ix a m b d)
  (hs0:if mid<m then mid+m≤s+b∧s≤mid else a≤s∧s≤m)
  (hlow:(if mid<m then s+b=mid+m else s=a)∨lt d[e]! d[s-1]! =false) (hhigh:(if mid<m then s=mid else s=m)∨lt d[e-1]! d[s]! =true) (hr:Rot s m e d d'):Sym lt ix a m b mid s e d d'∧a≤s∧s≤mid∧s≤m∧mid≤e∧m≤e∧e≤b:=by
 have k1:a≤s:=by split at hs0<;>omega
 have k2:s≤mid:=by split at hs0<;>omega
 have k3:s≤m:=by split at hs0<;>omega
 have k4:m≤e:=by omega
 have k5:mid≤e:=by omega
 have k6:e≤b:=by split at hs0<;>omega
 have g:∀p,d'[p]! =if s≤p∧p<mid then d[p-s+m]! else if mid≤p∧p<e then d[p-(e-m)]! else d[p]!:=fun p=>by
  rw[hr.2,show s+(e-m)=mid by omega]
 -- the four parts
 have L1:∀p,a≤p→p<s→d'[p]! =d[p]!:=fun p h3 h4=>by rw[g,if_neg (by omega),if_neg (by omega)]
 have R1:∀p,s≤p→p<mid→d'[p]! =d[p-s+m]!:=fun p h3 h4=>by rw[g,if_pos ⟨h3,h4⟩]
 have L2:∀p,mid≤p→p<e→d'[p]! =d[p-(e-m)]!:=fun p h3 h4=>by rw[g,if_neg (by omega),if_pos ⟨h3,h4⟩]
 have R2:∀p,e≤p→p<b→d'[p]! =d[p]!:=fun p h3 h4=>by rw[g,if_neg (by omega),if_neg (by omega)]
 have lr:∀p q,a≤p→p<s→e≤q→q<b→Bef lt ix d[p]! d[q]!:=fun p q h3 h4 h5 h6=>by
  have hB:Bef lt ix d[s-1]! d[e]!:=by
   rcases hlow with h|h
   ·split at h<;>omega
   ·exact .inr ⟨h,hc _ _ (by omega) (by omega) k4 (by omega)⟩
  have hB1:Bef lt ix d[p]! d[e]!:=by
   by_cases e1:p=s-1
   ·rw[e1];exact hB
   ·exact(h1 p (s-1) h3 (by omega) (by omega)).trans hS hB
  by_cases e2:q=e
  ·rw[e2];exact hB1
  ·exact hB1.trans hS (h2 e q k4 (by omega) h6)
 have rl:∀p q,m≤p→p<e→s≤q→q<m→Bef lt ix d[p]! d[q]!:=fun p q h3 h4 h5 h6=>by
  have hB:Bef lt ix d[e-1]! d[s]!:=by
   rcases hhigh with h|h
   ·split at h<;>omega
   ·exact .inl h
  have hB1:Bef lt ix d[p]! d[s]!:=by
   by_cases e1:p=e-1
   ·rw[e1];exact hB
   ·exact(h2 p (e-1) h3 (by omega) (by omega)).trans hS hB
  by_cases e2:q=s
  ·rw[e2];exact hB1
  ·exact hB1.trans hS (h1 s q k1 (by omega) h6)
 refine⟨⟨fun p q h3 h4 h5=>?_,fun p q h3 h4 h5=>?_,fun p q h3 h4 h5 h6=>?_,fun p q h3 h4 h5=>?_,fun p q h3 h4 h5=>?_,fun p q h3 h4 h5 h6=>?_,fun p q h3 h4 h5 h6=>?_⟩,k1,k2,k3,k5,k4,k6⟩
 ·rw[L1 p h3 (by omega),L1 q (by omega) h5]
  exact h1 p q h3 h4 (by omega)
 ·rw[R1 p h3 (by omega),R1 q (by omega) h5]
  exact h2 _ _ (by omega) (by omega) (by omega)
 ·rw[L1 p h3 h4,R1 q h5 h6]
  exact hc _ _ h3 (by omega) (by omega) (by omega)
 ·rw[L2 p h3 (by omega),L2 q (by omega) h5]
  exact h1 _ _ (by omega) (by omega) (by omega)
 ·rw[R2 p h3 (by omega),R2 q (by omega) h5]
  exact h2 _ _ (by omega) h4 h5
 ·rw[L2 p h3 h4,R2 q h5 h6]
  exact hc _ _ (by omega) (by omega) (by omega) h6
 ·by_cases c1:p<s
  ·rw[L1 p h3 c1]
   by_cases c2:q<e
   ·rw[L2 q h5 c2]
    exact h1 _ _ h3 (by omega) (by omega)
   ·rw[R2 q (by omega) h6]
    exact lr p q h3 c1 (by omega) h6
  ·rw[R1 p (by omega) h4]
   by_cases c2:q<e
   ·rw[L2 q h5 c2]
    exact rl _ _ (by omega) (by omega) (by omega) (by omega)
   ·rw[R2 q (by omega) h6]
    exact h2 _ _ (by omega) (by omega) h6
theorem asc_join{a mid b:Nat}{d1 d2 d3:Array α}(h2:PermIn a mid d1 d2)(h3:PermIn mid b d2 d3)(hb:b≤d1.size)(hm:mid≤b)(hA:Asc lt ix a mid d2)(hB:Asc lt ix mid b d3)(hx:∀p q,a≤p→p<mid→mid≤q→q<b→Bef lt ix d1[p]! d1[q]!):Asc lt ix a b d3:=by
 have hlo:∀p,p<mid→d3[p]! =d2[p]!:=fun p hp=>h3.2.1 p (.inl hp)
 have hhi:∀p,mid≤p→d2[p]! =d1[p]!:=fun p hp=>h2.2.1 p (.inr hp)
 have hc:∀p q,a≤p→p<mid→mid≤q→q<b→Bef lt ix d3[p]! d3[q]!:=by
  intro p q h4 h5 h6 h7
  rw[hlo p h5]
  refine permIn_all d2 d3 mid b (fun y=>Bef lt ix d2[p]! y) (by rw[h2.1];exact hb) h3 (fun r h8 h9=>?_) q h6 h7
  rw[hhi r h8]
  exact permIn_all d1 d2 a mid (fun x=>Bef lt ix x d1[r]!) (by omega) h2 (fun x h10 h11=>hx x r h10 h11 h8 h9) p h4 h5
 intro p q h4 h5 h6
 by_cases c1:q<mid
 ·rw[hlo p (by omega),hlo q c1]
  exact hA p q h4 h5 c1
 ·by_cases c2:p<mid
  ·exact hc p q h4 c2 (by omega) h6
  ·exact hB p q (by omega) h5 h6
end Go.Proofs.YtccoobcggbbcialGreatDoor.Stab
namespace Go.Proofs.YtccoobcggbbcialGreatDoor.Stab
open Go.ChangeShapes Go.WideShapes Go.ChangeAt Go.RowKit Go.Shelf
open Go.Sort (swp swp_get swp_size SWO SWO.asymmA PermIn permIn_refl permIn_trans permIn_mono permIn_all swp_permIn)
variable {α:Type} [Inhabited α]
theorem wrapN{p:Nat}(h:p<9223372036854775808):IntKind.i64.wrap (p:Int)=(p:Int):=by rw[IntKind.wrap_i64];omega
structure LSw (H:World→Array α→Prop) (lt:α→α→Bool) (n blk g:Nat) (lb:Array Value) (sf:Nat) (sb:Array Value):Prop where
 eg:∀args w,(callFunc g args).run Tryz.prog w = .ok (.enter g args) w
 less:∀W d,H W d→∀i j:Nat,i<n→j<n→Calls Tryz.prog g (#[.int .i64 (i:Int),.int .i64 (j:Int)]++lb) W fun e w'=>e = .returned (.bool (lt d[i]! d[j]!))∧H w' d∧W.grownBy w' (some blk)
 swap:∀W d,H W d→∀i j:Nat,i<n→j<n→∃W',(callFunc sf (#[.int .i64 (i:Int),.int .i64 (j:Int)]++sb)).run Tryz.prog W = .ok (.value (.tuple #[])) W'∧H W' (swp d i j)∧W.grownBy W' (some blk)
 alloc:∀W d o,H W d→H (W.alloc o) d
 size:∀W d,H W d→d.size=n
 low:∀W d,H W d→blk<W.heap.size
structure BX (H:World→Array α→Prop) (blk g:Nat) (lb:Array Value) (sf:Nat) (sb:Array Value) (W W':World) (d:Array α):Prop where
 h:H W' d
 gr:W.grownBy W' (some blk)
 c0:W'.cell? ⟨W.heap.size,0,none⟩=some (.func (.func g) #[] lb)
 c1:W'.cell? ⟨W.heap.size,1,none⟩=some (.func (.func sf) #[] sb)
theorem BX.start{H:World→Array α→Prop}{lt:α→α→Bool}{n blk g sf:Nat}{lb sb:Array Value}(hL:LSw H lt n blk g lb sf sb){W:World}{d:Array α}(h:H W d):BX H blk g lb sf sb W (W.alloc (.cells #[.func (.func g) #[] lb,.func (.func sf) #[] sb] 202)) d:=by
 obtain⟨c,-,-⟩:=cells_of (l:=[_,_]) (heap_alloc_new W (.cells #[.func (.func g) #[] lb,.func (.func sf) #[] sb] 202))
 exact⟨hL.alloc _ _ _ h,World.grownBy_alloc _ _ _,c 0 _ rfl,c 1 _ rfl⟩
theorem BX.step{H:World→Array α→Prop}{lt:α→α→Bool}{n blk g sf:Nat}{lb sb:Array Value}(hL:LSw H lt n blk g lb sf sb){W W' W2:World}{d d0 d2:Array α}(hW:H W d0)(h:BX H blk g lb sf sb W W' d)(h2:H W2 d2)(hg:W'.grownBy W2 (some blk)):BX H blk g lb sf sb W W2 d2:=by
 have h0:=hL.low _ _ hW
 have h1:W.heap.size<W'.heap.size:=World.block_lt_of_cell? _ _ h.c0
 exact⟨h2,h.gr.trans hg,(hg.cell_far ⟨W.heap.size,0,none⟩ h1 (by simp;omega)).trans h.c0,(hg.cell_far ⟨W.heap.size,1,none⟩ h1 (by simp;omega)).trans h.c1⟩
omit [Inhabited α] in
theorem BX.lt{H:World→Array α→Prop}{blk g sf:Nat}{lb sb:Array Value}{W W':World}{d:Array α}(h:BX H blk g lb sf sb W W' d):W.heap.size<W'.heap.size:=World.block_lt_of_cell? _ _ h.c0
set_option maxRecDepth 20000 in
set_option maxHeartbeats 4000000 in
theorem swapRF_any{H:World→Array α→Prop}{lt:α→α→Bool}{N blk g sf:Nat}{lb sb:Array Value}(hL:LSw H lt N blk g lb sf sb){W:World}{d:Array α}(h:H W d)(a b n:Nat)(hab:a+n≤b)(hb:b+n≤N)(hs:N≤4194304) :
  Calls Tryz.prog 244 #[.agg #[.func (.func g) #[] lb,.func (.func sf) #[] sb],.int .i64 (a:Int),.int .i64 (b:Int),.int .i64 (n:Int)] W fun r W'=>r = .returned (.tuple #[])∧∃d',H W' d'∧W.grownBy W' (some blk)∧Swr a b n d d'∧PermIn a (b+n) d d':=by
 have eg:=hL.eg
 have H0:Hid (H W d∧BX H blk g lb sf sb W (W.alloc (.cells #[.func (.func g) #[] lb,.func (.func sf) #[] sb] 202)) d):=⟨h,BX.start hL h⟩
 have HZ:Hid (d.size=N):=hL.size _ _ h
 clear h
 go_enter Tryz.func244,Tryz.ntmps244
 go_wp2_with fail
 go_loopw [8] (fun iv wr=>∃(j:Nat) (d':Array α),j≤n∧iv = .int .i64 (j:Int)∧BX H blk g lb sf sb W wr d'∧Swr a b j d d'∧PermIn a (b+n) d d') (fun iv _=>n-(intOf iv).toNat)
 case atStart=>exact⟨0,d,Nat.zero_le _,rfl,H0.out.2,Swr.refl _ _ _,permIn_refl _ _ _⟩
 case round =>
  obtain⟨j,d',hj,rfl,hd,hw,hp⟩:=hrel
  have hz:=hw.1
  have HD:Hid (BX H blk g lb sf sb W wr d'∧Swr a b j d d'∧PermIn a (b+n) d d'):=⟨hd,hw,hp⟩
  by_cases hjn:j<n
  ·obtain⟨p,hpe⟩:∃p,p=a+j:=⟨_,rfl⟩
   obtain⟨q,hqe⟩:∃q,q=b+j:=⟨_,rfl⟩
   have hzz:=HZ.out
   obtain⟨W2,hrun,hH2,hg2⟩:=hL.swap wr d' hd.h p q (by omega) (by omega)
   have HN:Hid (BX H blk g lb sf sb W W2 (swp d' p q)∧Swr a b (j+1) d (swp d' p q)∧PermIn a (b+n) d (swp d' p q)):=⟨hd.step hL H0.out.1 hH2 hg2,by rw[hpe,hqe];exact hw.step hjn hab (by omega),permIn_trans _ _ _ _ _ hp (swp_permIn _ _ _ _ _ (by omega) (by omega) (by omega) (by omega) (by omega))⟩
   have c1:=hd.c1
   have lg:=hd.lt
   have hji:(j:Int)<(n:Int):=by omega
   have e0:(a:Int)+(j:Int)=(p:Int):=by omega
   have e1:(b:Int)+(j:Int)=(q:Int):=by omega
   have e7:IntKind.i64.wrap (p:Int)=(p:Int):=wrapN (by omega)
   have e8:IntKind.i64.wrap (q:Int)=(q:Int):=wrapN (by omega)
   have e6:j<4194304:=by omega
   have HR:Hid (_=_):=hrun
   clear hd hw hp H0 hz hpe hqe HD hzz hH2 hg2 hrun
   go_wp2_with fail
   rw[HR.out,Oper.upon_value]
   go_wp2_with fail
   exact⟨⟨j+1,_,by omega,by simp,HN.out⟩,by simp[intOf];omega⟩
  ·have hje:j=n:=by omega
   subst hje
   clear hd hw hp
   go_wp2_with fail
   go_end0
   exact⟨rfl,d',HD.out.1.h,HD.out.1.gr,HD.out.2⟩
variable {α:Type} [Inhabited α]
set_option maxRecDepth 20000 in
set_option maxHeartbeats 4000000 in
theorem rotF_any{H:World→Array α→Prop}{lt:α→α→Bool}{N blk g sf:Nat}{lb sb:Array Value}(hL:LSw H lt N blk g lb sf sb){W:World}{d:Array α}(h:H W d)(a m b:Nat)(ham:a<m)(hmb:m<b)(hb:b≤N)(hs:N≤4194304) :
  Calls Tryz.prog 219 #[.agg #[.func (.func g) #[] lb,.func (.func sf) #[] sb],.int .i64 (a:Int),.int .i64 (m:Int),.int .i64 (b:Int)] W fun r W'=>r = .returned (.tuple #[])∧∃d',H W' d'∧W.grownBy W' (some blk)∧Rot a m b d d'∧PermIn a b d d':=by
 have H0:Hid (H W d∧BX H blk g lb sf sb W (W.alloc (.cells #[.func (.func g) #[] lb,.func (.func sf) #[] sb] 202)) d):=⟨h,BX.start hL h⟩
 have HZ:Hid (d.size=N):=hL.size _ _ h
 obtain⟨i0,hi0⟩:∃i0,i0=m-a:=⟨_,rfl⟩
 obtain⟨j0,hj0⟩:∃j0,j0=b-m:=⟨_,rfl⟩
 have x0:(m:Int)-(a:Int)=(i0:Int):=by omega
 have x1:(b:Int)-(m:Int)=(j0:Int):=by omega
 have x2:IntKind.i64.wrap (i0:Int)=(i0:Int):=wrapN (by omega)
 have x3:IntKind.i64.wrap (j0:Int)=(j0:Int):=wrapN (by omega)
 have HI:Hid (i0=m-a∧j0=b-m):=⟨hi0,hj0⟩
 clear h hi0 hj0
 go_enter Tryz.func219,Tryz.ntmps219
 go_wp2_with fail
 clear x0 x1 x2 x3
 go_loopw [8,9] (fun iv jv wr=>∃(i j:Nat) (d':Array α),0<i∧0<j∧a+i≤m∧m+j≤b∧iv = .int .i64 (i:Int)∧jv = .int .i64 (j:Int)∧BX H blk g lb sf sb W wr d'∧d'.size=N∧PermIn a b d d'∧Hid (∀d2,Rot (m-i) m (m+j) d' d2→Rot a m b d d2)) (fun iv jv _=>(intOf iv).toNat+(intOf jv).toNat)
 case atStart=>exact⟨i0,j0,d,by have:=HI.out;omega,by have:=HI.out;omega,by have:=HI.out;omega,by have:=HI.out;omega,rfl,rfl,H0.out.2,HZ.out,permIn_refl _ _ _,by
  have h1:=HI.out
  intro d2 h2
  rw[show m-i0=a by omega,show m+j0=b by omega]at h2
  exact h2⟩
 case round =>
  obtain⟨i,j,d',hi,hj,hai,hjb,rfl,rfl,hd,hz,hp,hr⟩:=hrel
  generalize wr=wR at *
  have HD:Hid (BX H blk g lb sf sb W wR d'∧d'.size=N∧PermIn a b d d'∧∀d2,Rot (m-i) m (m+j) d' d2→Rot a m b d d2):=⟨hd,hz,hp,hr.out⟩
  have HB:Hid (a<m∧m<b∧b≤N∧N≤4194304):=⟨ham,hmb,hb,hs⟩
  obtain⟨p,hpe⟩:∃p,p=m-i:=⟨_,rfl⟩
  have y0:(m:Int)-(i:Int)=(p:Int):=by omega
  have y1:IntKind.i64.wrap (p:Int)=(p:Int):=wrapN (by omega)
  have HPE:Hid (p=m-i):=hpe
  have S1:=fun q n h1 h2=>swapRF_any hL hd.h p q n h1 h2 hs
  have hperm:∀(lo hi2:Nat) (d2:Array α),a≤lo→hi2≤b→PermIn lo hi2 d' d2→PermIn a b d d2:=fun lo hi2 d2 h1 h2 h3=>permIn_trans _ _ _ _ _ hp (permIn_mono _ _ _ _ _ _ h1 h2 (by omega) h3)
  have HPM:Hid (∀(lo hi2:Nat) (d2:Array α),a≤lo→hi2≤b→PermIn lo hi2 d' d2→PermIn a b d d2):=hperm
  have HW:Hid (H W d):=H0.out.1
  have c0:=hd.c0
  have c1:=hd.c1
  have lg:=hd.lt
  clear hr hperm hd hp H0
  rcases Nat.lt_trichotomy i j with hij|hij|hij
  ·obtain⟨s,hse⟩:∃s,s=m+j:=⟨_,rfl⟩
   obtain⟨q,hqe⟩:∃q,q=m+j-i:=⟨_,rfl⟩
   obtain⟨k,hke⟩:∃k,k=j-i:=⟨_,rfl⟩
   have y2:(m:Int)+(j:Int)=(s:Int):=by omega
   have y3:(s:Int)-(i:Int)=(q:Int):=by omega
   have y4:(j:Int)-(i:Int)=(k:Int):=by omega
   have y5:IntKind.i64.wrap (s:Int)=(s:Int):=wrapN (by omega)
   have y6:IntKind.i64.wrap (q:Int)=(q:Int):=wrapN (by omega)
   have y7:IntKind.i64.wrap (k:Int)=(k:Int):=wrapN (by omega)
   have h1:¬ (i:Int)=(j:Int):=by omega
   have h2:¬ (j:Int)<(i:Int):=by omega
   have S2:=S1 q i (by omega) (by omega)
   have HQ:Hid (s=m+j∧q=m+j-i∧k=j-i∧i<j∧0<i∧0<j∧a+i≤m∧m+j≤b):=⟨hse,hqe,hke,hij,hi,hj,hai,hjb⟩
   clear S1 hse hqe hke hpe hij hi hj hai hjb hz hb hs ham hmb
   go_wp2_with (go_at_call 244;refine S2.mono ?_;rintro r w5 ⟨rfl,d2,h3,hg5,h4,h5⟩;have H5:Hid (BX H blk g lb sf sb W w5 d2∧Swr p q i d' d2∧PermIn p (q+i) d' d2):=⟨HD.out.1.step hL HW.out h3 hg5,h4,h5⟩;clear h3 h4 h5 hg5 S2)
   obtain⟨q1,q2,q3,q4,q5,q6,q7,q8⟩:=HQ.out
   have p1:=HPE.out
   refine⟨⟨i,k,d2,q5,by omega,q7,by omega,rfl,rfl,H5.out.1,H5.out.2.2.1.trans HD.out.2.1,HPM.out _ _ _ (by omega) (by omega) H5.out.2.2,?_⟩,by simp[intOf];omega⟩
   intro d3 h9
   refine HD.out.2.2.2 d3 (rot_lt (by omega) q4 (d':=d2) (by rw[← p1,← q2];exact H5.out.2.1) (by rw[← q3];exact h9))
  ·subst hij
   have S2:=S1 m i (by omega) (by omega)
   have HQ:Hid (0<i∧a+i≤m∧m+i≤b):=⟨hi,hai,hjb⟩
   clear S1 hpe hi hj hai hjb hz hb hs ham hmb
   go_wp2_with (go_at_call 244;refine S2.mono ?_;rintro r w5 ⟨rfl,d2,h3,hg5,h4,h5⟩;have H5:Hid (BX H blk g lb sf sb W w5 d2∧Swr p m i d' d2∧PermIn p (m+i) d' d2):=⟨HD.out.1.step hL HW.out h3 hg5,h4,h5⟩;clear h3 h4 h5 hg5 S2)
   go_end0
   obtain⟨q1,q2,q3⟩:=HQ.out
   have p1:=HPE.out
   refine⟨rfl,d2,H5.out.1.h,H5.out.1.gr,HD.out.2.2.2 d2 (rot_eq (by omega) (by rw[← p1];exact H5.out.2.1)),HPM.out _ _ _ (by omega) (by omega) H5.out.2.2⟩
  ·obtain⟨k,hke⟩:∃k,k=i-j:=⟨_,rfl⟩
   have y4:(i:Int)-(j:Int)=(k:Int):=by omega
   have y7:IntKind.i64.wrap (k:Int)=(k:Int):=wrapN (by omega)
   have h1:¬ (i:Int)=(j:Int):=by omega
   have h2:(j:Int)<(i:Int):=by omega
   have S2:=S1 m j (by omega) (by omega)
   have HQ:Hid (k=i-j∧j<i∧0<i∧0<j∧a+i≤m∧m+j≤b):=⟨hke,hij,hi,hj,hai,hjb⟩
   clear S1 hke hpe hij hi hj hai hjb hz hb hs ham hmb
   go_wp2_with (go_at_call 244;refine S2.mono ?_;rintro r w5 ⟨rfl,d2,h3,hg5,h4,h5⟩;have H5:Hid (BX H blk g lb sf sb W w5 d2∧Swr p m j d' d2∧PermIn p (m+j) d' d2):=⟨HD.out.1.step hL HW.out h3 hg5,h4,h5⟩;clear h3 h4 h5 hg5 S2)
   obtain⟨q1,q2,q3,q4,q5,q6⟩:=HQ.out
   have p1:=HPE.out
   refine⟨⟨k,j,d2,by omega,q4,by omega,q6,rfl,rfl,H5.out.1,H5.out.2.2.1.trans HD.out.2.1,HPM.out _ _ _ (by omega) (by omega) H5.out.2.2,?_⟩,by simp[intOf];omega⟩
   intro d3 h9
   refine HD.out.2.2.2 d3 (rot_gt (by omega) q2 (d':=d2) (by rw[← p1];exact H5.out.2.1) (by rw[← q1];exact h9))
end Go.Proofs.YtccoobcggbbcialGreatDoor.Stab
