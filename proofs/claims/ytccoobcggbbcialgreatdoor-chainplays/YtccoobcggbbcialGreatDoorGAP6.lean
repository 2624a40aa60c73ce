import Derived.Test.YtccoobcggbbcialGreatDoorGAP5
import Derived.Test.YtccoobcggbbcialGreatDoorCards
import Derived.Test.YtccoobcggbbcialGreatDoorTie
import Derived.LaidMore
import Derived.ChangeArms
import Derived.OpenShut
import Derived.WideKeyArgs
import Derived.Deep.DeepHandedRow
namespace Go.Proofs.YtccoobcggbbcialGreatDoor
open Go.ChangeShapes Go.WideShapes Go.ChangeAt Go.RowKit
theorem gNoP:Tryz.prog.globalNamed "punctual/punctuallaw.noPart"=some 0:=by kernel_rfl
theorem tNoP:(Tryz.prog.globals[0]?).map (·.type)=some 66:=by kernel_rfl
theorem gNoO:Tryz.prog.globalNamed "punctual/punctuallaw.noCome"=some 1:=by kernel_rfl
theorem tNoO:(Tryz.prog.globals[1]?).map (·.type)=some 49:=by kernel_rfl
theorem of_laidP{W:World}(h:laidMetH Tryz.prog Rows.chainPlaysRow.laid W):PaAt7 W 0 0 noP∧CoAt W 1 0 noO:=by
 rw[MakeChecks.laidMetH_plain _ _ _ (by kernel_rfl)]at h
 obtain⟨ps,⟨g0,t0,cs0,f0,p0,q0,hg0,ht0,hv0,hd0,⟨g1,t1,cs1,f1,p1,q1,hg1,ht1,hv1,hd1,_,_⟩,_⟩,_,_⟩:=h
 obtain rfl:=Option.some.inj (gNoP.symm.trans hg0)
 obtain rfl:=Option.some.inj (gNoO.symm.trans hg1)
 obtain rfl:=Option.some.inj (tNoP.symm.trans ht0)
 obtain rfl:=Option.some.inj (tNoO.symm.trans ht1)
 have c0:∀j,W.cell? ⟨0,j,none⟩=cs0[j]?:=World.var?_cell hg0 hv0
 have c1:∀j,W.cell? ⟨1,j,none⟩=cs1[j]?:=World.var?_cell hg1 hv1
 refine⟨?_,?_⟩
 ·have hlen:cs0.toList.length=7:=by
   obtain⟨xs,n1,-,-,hl,-⟩:=DataW.trod_struct Tryz.underlying66 hd0
   rw[hl,cellsPa]
  obtain⟨x,hx,hy⟩:=pa_one hlen hd0
  have hxe:x=noP:=pavals_of (hy.symm.trans rfl)
  subst hxe
  have key:∀k u,noP.vals[k]?=some u→W.cell? ⟨0,0+k,none⟩=some u:=fun k u hu=>by
   rw[Nat.zero_add,c0,← Array.getElem?_toList,hx];exact hu
  exact⟨key 0 _ rfl,key 1 _ rfl,key 2 _ rfl,key 3 _ rfl,key 4 _ rfl,key 5 _ rfl,key 6 _ rfl⟩
 ·have hlen:cs1.toList.length=2:=by
   obtain⟨xs,n1,-,-,hl,-⟩:=DataW.trod_struct Tryz.underlying49 hd1
   rw[hl,cellsCo]
  obtain⟨x,hx,hy⟩:=co_one hlen hd1
  have hxe:x=noO:=covals_of (hy.symm.trans rfl)
  subst hxe
  have key:∀k u,noO.vals[k]?=some u→W.cell? ⟨1,0+k,none⟩=some u:=fun k u hu=>by
   rw[Nat.zero_add,c1,← Array.getElem?_toList,hx];exact hu
  exact⟨key 0 _ rfl,key 1 _ rfl⟩
theorem own:ownKnob Tryz.prog.godebug=none:=by kernel_rfl
theorem laidOut:laidOutB Tryz.prog=true:=by kernel_rfl
theorem reads3:Tryz.prog.readableRec 3=true:=by kernel_rfl
theorem lt3:3<Tryz.prog.types.size:=of_decide_eq_true (by kernel_rfl)
theorem reads24:Tryz.prog.readableRec 24=true:=by kernel_rfl
theorem lt24:24<Tryz.prog.types.size:=of_decide_eq_true (by kernel_rfl)
theorem reads25:Tryz.prog.readableRec 25=true:=by kernel_rfl
theorem lt25:25<Tryz.prog.types.size:=of_decide_eq_true (by kernel_rfl)
theorem reads61:Tryz.prog.readableRec 61=true:=by kernel_rfl
theorem lt61:61<Tryz.prog.types.size:=of_decide_eq_true (by kernel_rfl)
set_option maxRecDepth 20000 in
theorem contractR(H:Type)(enc:TypeId × Value→H)(W:World)(base:Nat)(args:Array Value)(ds gs:List (DataW H))(before:List MemPlace)
  (hval:∀(j:Nat) t v,Tryz.f4.params[j]?=some t→args[j]?=some v→Value.okWide Tryz.prog W .any base t v)
  (hW:DataW.Whole enc Tryz.prog Tryz.f4.params.toList Rows.chainPlaysSpec.vars false W args.toList ds gs before) (hL:laidMetH Tryz.prog Rows.chainPlaysRow.laid W) :
  Calls Tryz.prog 4 args W fun e W'=>∃v,e = .returned v∧Rows.chainPlaysSpec.post enc Tryz.prog Tryz.f4 false true false false W args v W':=by
 have hW':=hW
 obtain⟨p,q,hA0,hV,rfl,hfz,hnd⟩:=hW
 have hA:DataW.TrodAll enc Tryz.prog W 0 (fun _=>true) true Tryz.f4.params.toList args.toList ds p:=hA0
 rw[Tryz.params4]at hA hval
 obtain⟨v0,vs0,d0,ds0,p0,q0,hargs0,rfl,rfl,h0,r0⟩:=trodAll_cons hA
 obtain⟨v1,vs1,d1,ds1,p1,q1,hargs1,rfl,rfl,h1,r1⟩:=trodAll_cons r0
 obtain⟨v2,vs2,d2,ds2,p2,q2,hargs2,rfl,rfl,h2,r2⟩:=trodAll_cons r1
 obtain⟨v3,vs3,d3,ds3,p3,q3,hargs3,rfl,rfl,h3,r3⟩:=trodAll_cons r2
 obtain⟨rfl,rfl,rfl⟩:=trodAll_nil r3
 obtain rfl:args=#[v0,v1,v2,v3]:=Array.toList_inj.1 (by rw[hargs0,hargs1,hargs2,hargs3])
 obtain⟨rfl,rfl⟩:=trodVars_none hV
 obtain⟨ad0,len0,cap0,rfl⟩:=okWide_slice Tryz.underlying61 (hval 0 61 v0 (by simp) (by simp))
 obtain⟨ad1,len1,cap1,rfl⟩:=okWide_slice Tryz.underlying24 (hval 1 24 v1 (by simp) (by simp))
 obtain⟨ad2,len2,cap2,rfl⟩:=okWide_slice Tryz.underlying25 (hval 2 25 v2 (by simp) (by simp))
 obtain⟨n3,rfl⟩:=okWide_int Tryz.underlying3 (hval 3 3 v3 (by simp) (by simp))
 clear hA0 hargs0 hargs1 hargs2 hargs3
 simp only[List.append_nil]at hW'
 obtain⟨l,rfl,hsl⟩:=paSl_of_trod h0
 obtain⟨cs,rfl,hcl⟩:=coSl_of_trod h1
 obtain⟨tk,rfl,htl⟩:=nuSl_of_trod h2
 obtain⟨g1,g2⟩:=of_laidP hL
 refine(cp_walk W l cs tk n3 _ _ _ g1 g2 hsl hcl htl).mono fun e W' ⟨he,hbel⟩=>?_
 subst he
 have hlt0:∀x∈p0,x.block<W.heap.size:=fun x hx=>by
  obtain⟨n,hn⟩:=h0
  exact DataW.trod_lt n _ _ _ hn x hx
 have hlt1:∀x∈p1,x.block<W.heap.size:=fun x hx=>by
  obtain⟨n,hn⟩:=h1
  exact DataW.trod_lt n _ _ _ hn x hx
 have hlt2:∀x∈p2,x.block<W.heap.size:=fun x hx=>by
  obtain⟨n,hn⟩:=h2
  exact DataW.trod_lt n _ _ _ hn x hx
 have hlt3:∀x∈p3,x.block<W.heap.size:=fun x hx=>by
  obtain⟨n,hn⟩:=h3
  exact DataW.trod_lt n _ _ _ hn x hx
 refine⟨_,rfl,[d0,d1,d2,d3],[],p0++(p1++(p2++p3)),[],p0++(p1++(p2++p3)),[],hW',trodAll_mk1 (shut_bool Tryz.underlying4 _),?_,rfl,hbel.frame _,fun h=>by cases h⟩
 have s0:=WideElems.Trod_stays (W':=W') (sp':=fun b=>decide (b<W.heap.size)) laidOut reads61 lt61 h0 (fun x hx=>hbel.same (hlt0 x hx)) (fun x hx=>by simpa using hlt0 x hx)
 have s1:=WideElems.Trod_stays (W':=W') (sp':=fun b=>decide (b<W.heap.size)) laidOut reads24 lt24 h1 (fun x hx=>hbel.same (hlt1 x hx)) (fun x hx=>by simpa using hlt1 x hx)
 have s2:=WideElems.Trod_stays (W':=W') (sp':=fun b=>decide (b<W.heap.size)) laidOut reads25 lt25 h2 (fun x hx=>hbel.same (hlt2 x hx)) (fun x hx=>by simpa using hlt2 x hx)
 have s3:=WideElems.Trod_stays (W':=W') (sp':=fun b=>decide (b<W.heap.size)) laidOut reads3 lt3 h3 (fun x hx=>hbel.same (hlt3 x hx)) (fun x hx=>by simpa using hlt3 x hx)
 have e1:=trodAll_cons_mk s0 (trodAll_cons_mk s1 (trodAll_cons_mk s2 (trodAll_cons_mk s3 (trodAll_mk0 (enc:=enc) (P:=Tryz.prog) (w:=W') (base:=0) (spare:=fun b=>decide (b<W.heap.size)) (held:=true)))))
 rw[List.append_nil]at e1
 exact e1
def laidHeap(h:Array Obj):Array Obj:=(h.modify 0 fun
 | .cells _ t frozen=>.cells #[.int .i64 0,.int .i64 0,.int .i64 0,.int .i64 (-9),.int .i64 0,.int .i64 0,.int .i64 0] t frozen
 | o=>o).modify 1 fun
 | .cells _ t frozen=>.cells #[.int .i64 (-9),.int .i64 0] t frozen
 | o=>o
theorem laid_metR(os:Os):laidMet Tryz.prog Rows.chainPlaysRow.laid (({ World.holding Tryz.prog os ⟨#[],#[],[]⟩ with heap:=laidHeap (World.holding Tryz.prog os ⟨#[],#[],[]⟩).heap }:World).forCall (fun _ _=>0) ⟨#[],#[.slice none 0 0,.slice none 0 0,.slice none 0 0,.int .i64 0],[]⟩).memory :=
 laidMet_of_run' 8 (by kernel_rfl) (by kernel_rfl)
theorem readsR(os:Os){H:Type}(enc:TypeId × Value→H):∃places,DataW.whole enc Tryz.prog (({ World.holding Tryz.prog os ⟨#[],#[],[]⟩ with heap:=laidHeap (World.holding Tryz.prog os ⟨#[],#[],[]⟩).heap }:World).forCall (fun _ _=>0) ⟨#[],#[.slice none 0 0,.slice none 0 0,.slice none 0 0,.int .i64 0],[]⟩).memory Tryz.f4.params.toList Rows.chainPlaysSpec.vars false #[Value.slice none 0 0,.slice none 0 0,.slice none 0 0,.int .i64 0].toList 8=some ([.nil,.nil,.nil,.lit (.int .i64 0)],[],places) :=
 ⟨[],by kernel_rfl⟩
set_option maxRecDepth 100000 in
theorem liftedR(os:Os)(started:os.Started)(H:Type)(enc:TypeId × Value→H)(F:Stop.Interp) :
  ReturnsInHanded {} Tryz.checked os 4 .any ((OpenSpec.ofChange Rows.chainPlaysSpec).preRow enc Tryz.prog Tryz.f4 Rows.chainPlaysRow.domain false Rows.chainPlaysRow.laid) (((OpenSpec.ofChange Rows.chainPlaysSpec).at F).post enc Tryz.prog Tryz.f4 false true false false):=by
 obtain⟨places,hx⟩:=readsR os enc
 refine returnsInHanded_of_row (C:=Tryz.checked) (s:=OpenSpec.ofChange Rows.chainPlaysSpec) own started (by kernel_rfl) Tryz.func4
  (witness_row_at (enc:=enc) (C:=Tryz.checked) false ({ World.holding Tryz.prog os ⟨#[],#[],[]⟩ with heap:=laidHeap (World.holding Tryz.prog os ⟨#[],#[],[]⟩).heap }:World) #[.slice none 0 0,.slice none 0 0,.slice none 0 0,.int .i64 0] rfl (by kernel_rfl) (by kernel_rfl) (by kernel_rfl)
   (OpenSpec.preRow_of_cond 8 hx (by kernel_rfl) (fun k hk=>by cases hk) (by kernel_rfl) (laid_metR os))) ?_
 intro W base args ds gs before hval hW _ _ _ hL _ _
 exact contractR H enc W base args ds gs before hval hW hL
theorem saidR:Rows.ChainPlaysSaid :=
 OpenClaim.holds_of_cond 4 Tryz.f4 rfl rfl rfl rfl rfl rfl rfl ⟨rfl,rfl,rfl,rfl,rfl⟩ rfl rfl rfl rfl rfl (by kernel_rfl) Tryz.func4 (by kernel_rfl)
  (of_decide_eq_true (by kernel_rfl)) (by unfold Func.isWrapper;first|(rw[if_pos (by decide +kernel)];kernel_rfl)|(rw[if_neg (by decide +kernel)];exact⟨rfl,rfl⟩))
  (fun os started H enc _ F=>by rw[OpenClaim.pre_eq_preRow];exact liftedR os started H enc F)
theorem standlessR(f:FuncId)(fn:Func)(hf:Tryz.pinned.checked.prog.funcNamed "punctual/punctuallaw.ChainPlays"=some f)(hfn:Tryz.pinned.checked.prog.funcs[f]?=some fn) :
  true=Tryz.pinned.checked.prog.looks []∧∀(j:Nat) t,fn.params[j]?=some t→Tryz.pinned.checked.prog.wantsStandIn t=false:=by
 obtain rfl:f=4:=Option.some.inj ((show Tryz.prog.funcNamed "punctual/punctuallaw.ChainPlays"=some 4 by kernel_rfl).symm.trans hf) |>.symm
 obtain rfl:fn=Tryz.f4:=(Option.some.inj (Tryz.func4.symm.trans hfn)).symm
 refine⟨by kernel_rfl,fun j t ht=>?_⟩
 rw[Tryz.params4]at ht
 have h:t=61∨t=24∨t=25∨t=3:=by
  have:=Array.mem_of_getElem? ht
  simp at this
  (first|exact this|(rcases this with h|h|h|h<;>simp[h];done))
 rcases h with rfl|rfl|rfl|rfl
 ·exact(show Tryz.prog.wantsStandIn 61=false by kernel_rfl)
 ·exact(show Tryz.prog.wantsStandIn 24=false by kernel_rfl)
 ·exact(show Tryz.prog.wantsStandIn 25=false by kernel_rfl)
 ·exact(show Tryz.prog.wantsStandIn 3=false by kernel_rfl)
theorem chainPlays_card:Rows.ChainPlaysCardSaid :=
 Claim7.holds_tied_plain_at .later [] _ _ _ _ saidR (fun _ h=>by cases h) (by kernel_rfl) (fun _ h=>by cases h) chainPlays_row_tie rfl ⟨rfl,rfl⟩ (by kernel_rfl) rfl standlessR (by kernel_rfl)
end Go.Proofs.YtccoobcggbbcialGreatDoor
