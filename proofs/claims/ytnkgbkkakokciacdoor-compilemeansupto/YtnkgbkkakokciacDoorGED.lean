import Derived.Test.YtnkgbkkakokciacDoorCards
import Derived.Test.YtnkgbkkakokciacDoorTie
import Derived.Test.YtnkgbkkakokciacDoorGBSize
import Derived.Test.YtnkgbkkakokciacDoorGEC
import Derived.Test.YtnkgbkkakokciacDoorGEL
import Derived.WideKeyArgs
import Derived.Deep.DeepHandedRow
namespace Go.Proofs.YtnkgbkkakokciacDoor
open Go.ChangeShapes Go.WideShapes Go.ChangeAt Go.RowKit
theorem own:ownKnob Tryd.prog.godebug=none:=by kernel_rfl
theorem laidOut:laidOutB Tryd.prog=true:=by kernel_rfl
theorem reads63:Tryd.prog.readableRec 63=true:=by kernel_rfl
theorem lt63:63<Tryd.prog.types.size:=of_decide_eq_true (by kernel_rfl)
theorem reads23:Tryd.prog.readableRec 23=true:=by kernel_rfl
theorem lt23:23<Tryd.prog.types.size:=of_decide_eq_true (by kernel_rfl)
theorem lits_bulk {H:Type} (k:IntKind):∀ l:List Int,Rows.uptoBulkAll (lits (H:=H) k l)=l.length
 | []=>rfl
 | x::r=>by
  have:=lits_bulk (H:=H) k r
  simp only [lits,List.map_cons,Rows.uptoBulkAll,Rows.uptoBulk,List.length_cons] at this ⊢
  omega
theorem B.IntSl.of_trod {H:Type} {enc:TypeId × Value→H} {w:World} {sp:Nat→Bool} {held:Bool} {ad:Option Addr} {n c:Nat} {d:DataW H} {ps:List MemPlace} (h:DataW.Trod enc Tryd.prog w 0 sp held 23 (.slice ad n c) d ps) :
  ∃ vs,n=vs.length∧B.IntSl w vs (.slice ad n c)∧(ad=none→vs.length=0∧c=0)∧vs.length≤Rows.uptoBulk d:=by
 obtain ⟨k,hk⟩:=h
 rcases open_ints Tryd.underlying23 Tryd.underlying3 cells3 hk with ⟨h1,-⟩ | ⟨a,len,cap,zs,h1,-,hlc,-,hl,h2,hc,-⟩
 ·simp [Value.cells] at h1
  obtain ⟨rfl,rfl,rfl⟩:=h1
  exact ⟨[],rfl,⟨_,_,rfl,.inl rfl⟩,fun _=>⟨rfl,rfl⟩,Nat.zero_le _⟩
 ·simp [Value.cells] at h1
  obtain ⟨rfl,rfl,rfl⟩:=h1
  have hle:n≤zs.length:=by rw [hl];split <;> omega
  have hlen:(zs.take n).length=n:=by simp;omega
  refine ⟨zs.take n,hlen.symm,⟨_,_,by rw [hlen],?_⟩,(fun e=>by cases e),?_⟩
  ·by_cases h0:n=0
   ·subst h0;exact .inl (by simp)
   ·have hp:=plain_addr (w:=w) (a:=a) (by simpa [Addr.add] using hc 0 (by omega))
    refine .inr ⟨a.block,a.off,by rw [← hp],fun j hj=>?_⟩
    rw [hlen] at hj
    have:=hc j (by omega)
    rw [hp,add_plain'] at this
    rw [this]
    simp [List.getD,hj]
  ·simp only [Prod.mk.injEq] at h2
   rw [h2.1]
   simp only [Rows.uptoBulk,lits_bulk]
   omega
set_option maxRecDepth 20000 in
theorem contract (H:Type) (enc:TypeId × Value→H) (W:World) (base:Nat) (args:Array Value) (ds gs:List (DataW H)) (before:List MemPlace)
  (hval:∀ (j:Nat) t v,Tryd.f7.params[j]?=some t→args[j]?=some v→Value.okWide Tryd.prog W .any base t v)
  (hW:DataW.Whole enc Tryd.prog Tryd.f7.params.toList Rows.compileMeansSpec.vars false W args.toList ds gs before) (hL:laidMetH Tryd.prog Rows.compileMeansUptoRow.laid W) (hk:Rows.uptoSmall H (ds++gs)=true) :
  Calls Tryd.prog 7 args W fun e W'=>∃ v,e = .returned v∧Rows.compileMeansSpec.post enc Tryd.prog Tryd.f7 false true false false W args v W':=by
 have hW':=hW
 obtain ⟨p,q,hA0,hV,rfl,hfz,hnd⟩:=hW
 have hA:DataW.TrodAll enc Tryd.prog W 0 (fun _=>true) true Tryd.f7.params.toList args.toList ds p:=hA0
 rw [Tryd.params7] at hA hval
 obtain ⟨v0,vs0,d0,ds0,p0,q0,hargs,rfl,rfl,h0,r0⟩:=trodAll_cons hA
 obtain ⟨v1,vs1,d1,ds1,p1,q1,hargs1,rfl,rfl,h1,r1⟩:=trodAll_cons r0
 obtain ⟨v2,vs2,d2,ds2,p2,q2,hargs2,rfl,rfl,h2,r2⟩:=trodAll_cons r1
 obtain ⟨rfl,rfl,rfl⟩:=trodAll_nil r2
 obtain rfl:args=#[v0,v1,v2]:=Array.toList_inj.1 (by rw [hargs,hargs1,hargs2])
 obtain ⟨rfl,rfl⟩:=trodVars_none hV
 obtain ⟨ad,len,cap,rfl⟩:=okWide_slice Tryd.underlying63 (hval 0 63 v0 (by simp) (by simp))
 obtain ⟨va,vn,vc,rfl⟩:=okWide_slice Tryd.underlying23 (hval 1 23 v1 (by simp) (by simp))
 obtain ⟨ia,im,ic,rfl⟩:=okWide_slice Tryd.underlying23 (hval 2 23 v2 (by simp) (by simp))
 clear hA0 hargs hargs1 hargs2
 simp only [List.append_nil] at hW' hk
 obtain ⟨a,hsl,hbulk⟩:=B.St.Sl.of_trod h0 rfl
 obtain ⟨vs,rfl,hvs,-,hvb⟩:=B.IntSl.of_trod h1
 obtain ⟨is,rfl,his,-,hib⟩:=B.IntSl.of_trod h2
 have hb:B.St.bulkAll a≤1048576∧vs.length≤1048576∧is.length≤1048576:=by
  have h:=of_decide_eq_true hk
  simp only [Rows.uptoBulkAll] at h
  omega
 obtain ⟨hrd,hkd⟩:=B.of_laidM hL
 obtain ⟨ad',cap',e,hr⟩:=id hsl
 cases e
 refine (B.means_walk W a ad va ia cap vc ic vs is hrd hkd hsl hvs his hb.1).mono fun e W' ⟨he,hbel⟩=>?_
 subst he
 have hlt0:∀ x ∈ p0,x.block<W.heap.size:=fun x hx=>by
  obtain ⟨n,hn⟩:=h0
  exact DataW.trod_lt n _ _ _ hn x hx
 have hlt1:∀ x ∈ p1,x.block<W.heap.size:=fun x hx=>by
  obtain ⟨n,hn⟩:=h1
  exact DataW.trod_lt n _ _ _ hn x hx
 have hlt2:∀ x ∈ p2,x.block<W.heap.size:=fun x hx=>by
  obtain ⟨n,hn⟩:=h2
  exact DataW.trod_lt n _ _ _ hn x hx
 refine ⟨_,rfl,[d0,d1,d2],[],p0++(p1++p2),[],p0++(p1++p2),[],hW',trodAll_mk1 (shut_bool Tryd.underlying4 _),?_,rfl,hbel.frame _,fun h=>by cases h⟩
 have s0:=WideElems.Trod_stays (W':=W') (sp':=fun b=>decide (b<W.heap.size)) laidOut reads63 lt63 h0 (fun x hx=>hbel.same (hlt0 x hx)) (fun x hx=>by simpa using hlt0 x hx)
 have s1:=WideElems.Trod_stays (W':=W') (sp':=fun b=>decide (b<W.heap.size)) laidOut reads23 lt23 h1 (fun x hx=>hbel.same (hlt1 x hx)) (fun x hx=>by simpa using hlt1 x hx)
 have s2:=WideElems.Trod_stays (W':=W') (sp':=fun b=>decide (b<W.heap.size)) laidOut reads23 lt23 h2 (fun x hx=>hbel.same (hlt2 x hx)) (fun x hx=>by simpa using hlt2 x hx)
 have e1:=trodAll_cons_mk s0 (trodAll_cons_mk s1 (trodAll_cons_mk s2 (trodAll_mk0 (enc:=enc) (P:=Tryd.prog) (w:=W') (base:=0) (spare:=fun b=>decide (b<W.heap.size)) (held:=true))))
 rw [List.append_nil] at e1
 exact e1
def laidHeap (h:Array Obj):Array Obj:=((((h.modify 1 fun
 | .cells _ t frozen=>.cells #[.int .i64 0,.int .i64 0,.int .i64 0,.int .i64 0,.int .i64 0,.int .i64 0,.int .i64 0,.int .i64 999999999,.int .i64 0,.int .i64 0,.int .i64 1,.int .i64 1,.int .i64 0,.int .i64 7,.int .i64 0,.int .i64 0,.int .i64 1,.int .i64 1,.int .i64 0,.int .i64 7,.int .i64 0,.int .i64 1,.int .i64 0,.int .i64 1,.int .i64 0,.int .i64 0,.int .i64 0,.int .i64 2,.int .i64 1,.int .i64 1,.int .i64 0,.int .i64 0,.int .i64 0,.int .i64 2,.int .i64 1,.int .i64 1,.int .i64 0,.int .i64 0,.int .i64 0,.int .i64 2,.int .i64 1,.int .i64 3,.int .i64 0,.int .i64 0,.int .i64 0,.int .i64 2,.int .i64 1,.int .i64 1,.int .i64 0,.int .i64 0,.int .i64 0,.int .i64 2,.int .i64 1,.int .i64 1,.int .i64 0,.int .i64 3,.int .i64 0,.int .i64 0,.int .i64 1,.int .i64 2,.int .i64 0,.int .i64 3,.int .i64 0,.int .i64 1,.int .i64 0,.int .i64 2,.int .i64 0,.int .i64 2000,.int .i64 0,.int .i64 0,.int .i64 0,.int .i64 2,.int .i64 0,.int .i64 2000,.int .i64 0,.int .i64 1,.int .i64 0,.int .i64 1,.int .i64 0,.int .i64 7,.int .i64 1000,.int .i64 0,.int .i64 0,.int .i64 1,.int .i64 0,.int .i64 7,.int .i64 2000,.int .i64 0,.int .i64 0,.int .i64 1,.int .i64 0,.int .i64 7,.int .i64 0,.int .i64 0,.int .i64 0,.int .i64 1,.int .i64 0,.int .i64 3,.int .i64 0,.int .i64 0,.int .i64 0,.int .i64 1,.int .i64 0,.int .i64 3,.int .i64 0,.int .i64 0,.int .i64 0,.int .i64 1,.int .i64 1,.int .i64 1000,.int .i64 0,.int .i64 0,.int .i64 0,.int .i64 0] t frozen
 | o=>o).modify 2 fun
 | .cells _ t frozen=>.cells #[.int .i64 0,.int .i64 0,.bool false,.bool false,.bool false,.bool false,.int .i64 0,.int .i64 7,.bool true,.bool false,.bool false,.bool false,.int .i64 0,.int .i64 3,.bool true,.bool false,.bool false,.bool false,.int .i64 0,.int .i64 0,.bool false,.bool true,.bool true,.bool true,.int .i64 0,.int .i64 1000,.bool false,.bool false,.bool true,.bool false,.int .i64 0,.int .i64 1000,.bool false,.bool true,.bool true,.bool false,.int .i64 0,.int .i64 3,.bool false,.bool false,.bool true,.bool false,.int .i64 1,.int .i64 1000,.bool false,.bool false,.bool false,.bool false] t frozen
 | o=>o).modify 5 fun
 | .cells _ t frozen=>.cells #[.int .i64 0,.int .i64 0,.int .i64 999999999,.int .i64 0,.int .i64 7,.int .i64 0,.int .i64 3,.int .i64 0,.int .i64 0,.int .i64 1,.int .i64 0,.int .i64 2,.int .i64 0,.int .i64 2,.int .i64 0,.int .i64 2] t frozen
 | o=>o).modify 3 fun
 | .cells _ t frozen=>.cells #[.int .i64 0,.int .i64 1,.int .i64 2,.int .i64 9,.int .i64 0,.int .i64 4,.int .i64 5,.int .i64 6] t frozen
 | o=>o).modify 4 fun
 | .cells _ t frozen=>.cells #[.int .i64 0,.bool false,.int .i64 7,.bool false,.int .i64 8,.bool false,.int .i64 8,.bool true,.int .i64 7,.bool true] t frozen
 | o=>o
theorem laid_met (os:Os):laidMet Tryd.prog Rows.compileMeansUptoRow.laid (({ World.holding Tryd.prog os ⟨#[],#[],[]⟩ with heap:=laidHeap (World.holding Tryd.prog os ⟨#[],#[],[]⟩).heap }:World).forCall (fun _ _=>0) ⟨#[],#[.slice none 0 0,.slice none 0 0,.slice none 0 0],[]⟩).memory :=
 laidMet_of_run' 8 (by kernel_rfl) (by kernel_rfl)
theorem reads (os:Os) {H:Type} (enc:TypeId × Value→H):∃ places,DataW.whole enc Tryd.prog (({ World.holding Tryd.prog os ⟨#[],#[],[]⟩ with heap:=laidHeap (World.holding Tryd.prog os ⟨#[],#[],[]⟩).heap }:World).forCall (fun _ _=>0) ⟨#[],#[.slice none 0 0,.slice none 0 0,.slice none 0 0],[]⟩).memory Tryd.f7.params.toList Rows.compileMeansSpec.vars false #[Value.slice none 0 0,.slice none 0 0,.slice none 0 0].toList 8=some ([.nil,.nil,.nil],[],places) :=
 ⟨[],by kernel_rfl⟩
set_option maxRecDepth 100000 in
theorem lifted (os:Os) (started:os.Started) (H:Type) (enc:TypeId × Value→H) (F:Stop.Interp) :
  ReturnsInHanded {} Tryd.checked os 7 .any ((Rows.OpenSpec.upto Rows.compileMeansSpec).preRow enc Tryd.prog Tryd.f7 Rows.compileMeansUptoRow.domain false Rows.compileMeansUptoRow.laid) (((Rows.OpenSpec.upto Rows.compileMeansSpec).at F).post enc Tryd.prog Tryd.f7 false true false false):=by
 obtain ⟨places,hx⟩:=reads os enc
 refine returnsInHanded_of_row (C:=Tryd.checked) (s:=Rows.OpenSpec.upto Rows.compileMeansSpec) own started (by kernel_rfl) Tryd.func7
  (witness_row_at (enc:=enc) (C:=Tryd.checked) false ({ World.holding Tryd.prog os ⟨#[],#[],[]⟩ with heap:=laidHeap (World.holding Tryd.prog os ⟨#[],#[],[]⟩).heap }:World) #[.slice none 0 0,.slice none 0 0,.slice none 0 0] rfl (by kernel_rfl) (by kernel_rfl) (by kernel_rfl)
   (OpenSpec.preRow_of_cond 8 hx (by kernel_rfl) (fun k hk=>by cases hk;kernel_rfl) (by kernel_rfl) (laid_met os))) ?_
 intro W base args ds gs before hval hW _ hcond _ hL _ _
 exact contract H enc W base args ds gs before hval hW hL (hcond _ rfl)
theorem said:Rows.CompileMeansUptoSaid :=
 OpenClaim.holds_of_cond 7 Tryd.f7 rfl rfl rfl rfl rfl rfl rfl ⟨rfl,rfl,rfl,rfl,rfl⟩ rfl rfl rfl rfl rfl (by kernel_rfl) Tryd.func7 (by kernel_rfl)
  (of_decide_eq_true (by kernel_rfl)) (by unfold Func.isWrapper;first | (rw [if_pos (by decide +kernel)];kernel_rfl) | (rw [if_neg (by decide +kernel)];exact ⟨rfl,rfl⟩))
  (fun os started H enc _ F=>by rw [OpenClaim.pre_eq_preRow];exact lifted os started H enc F)
theorem standless (f:FuncId) (fn:Func) (hf:Tryd.pinned.checked.prog.funcNamed "punctual/punctuallaw.CompileMeans"=some f) (hfn:Tryd.pinned.checked.prog.funcs[f]?=some fn) :
  true=Tryd.pinned.checked.prog.looks []∧∀ (j:Nat) t,fn.params[j]?=some t→Tryd.pinned.checked.prog.wantsStandIn t=false:=by
 obtain rfl:f=7:=Option.some.inj ((show Tryd.prog.funcNamed "punctual/punctuallaw.CompileMeans"=some 7 by kernel_rfl).symm.trans hf) |>.symm
 obtain rfl:fn=Tryd.f7:=(Option.some.inj (Tryd.func7.symm.trans hfn)).symm
 refine ⟨by kernel_rfl,fun j t ht=>?_⟩
 rw [Tryd.params7] at ht
 have h:t=63∨t=23:=by
  have:=Array.mem_of_getElem? ht
  simp at this
  exact this
 rcases h with rfl | rfl
 ·exact (show Tryd.prog.wantsStandIn 63=false by kernel_rfl)
 ·exact (show Tryd.prog.wantsStandIn 23=false by kernel_rfl)
theorem compileMeans_card:Rows.CompileMeansUptoCardSaid :=
 Claim7.holds_tied_plain_at .later [] _ _ _ _ said (fun _ h=>by cases h) (by kernel_rfl) (fun _ h=>by cases h) compileMeansUpto_row_tie rfl ⟨rfl,rfl⟩ (by kernel_rfl) rfl standless (by kernel_rfl)
end Go.Proofs.YtnkgbkkakokciacDoor
