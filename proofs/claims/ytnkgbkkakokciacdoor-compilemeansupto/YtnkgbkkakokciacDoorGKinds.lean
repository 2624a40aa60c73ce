import Derived.Test.YtnkgbkkakokciacDoorGBNode
import Derived.LaidEql
import Derived.MapKept
import Derived.Test.YtnkgbkkakokciacDoorGBSize
import Derived.Deep.LoopGhost
import Derived.WalkSmall
import Derived.Test.YtnkgbkkakokciacDoorGBWorth
import Derived.Test.YtnkgbkkakokciacDoorGDB
import Derived.LaidMore
import Derived.ChangeArms
import Derived.OpenShut
namespace Go.Proofs.YtnkgbkkakokciacDoor.B
open Go.ChangeShapes Go.WideShapes Go.ChangeAt Go.RowKit
def MapIs (w:World) (B:Nat) (L:List (Addr × Int)):Prop :=
 (∃ es clock,w.heap[B]?=some (.map es clock)∧es.toList.map (fun e=>(e.key,e.val))=L.map (fun x=>(Value.pointer (some x.1),Value.int .i64 x.2)))∧∀ x ∈ L,rowBlk w x.1.block
theorem und45:Tryd.prog.underlying 185=some (.map 188 3):=by kernel_rfl
theorem und48:Tryd.prog.underlying 188=some (.pointer 123):=by kernel_rfl
theorem info34':∃ i,Tryd.prog.info? 123=some i∧i.size=14:=by
 have:(Tryd.prog.info? 123).map (fun i=>i.size)=some 14:=by kernel_rfl
 cases h:Tryd.prog.info? 123 with
 | none=>rw [h] at this;cases this
 | some i=>rw [h] at this;exact ⟨i,rfl,by simpa using this⟩
theorem run_equal_ptr {w:World} {a b:Addr} (ha:rowBlk w a.block) (hb:rowBlk w b.block) :
  (Op.equal 188 (.pointer (some a)) (.pointer (some b))).run Tryd.prog w = .ok (decide (a=b)) w:=by
 obtain ⟨ca,ha⟩:=ha
 obtain ⟨cb,hb⟩:=hb
 obtain ⟨i,hi,hs⟩:=info34'
 unfold Op.equal
 show (Op.equalIn (9999+1) 188 _ _).run _ _=_
 unfold Op.equalIn
 by_cases hab:a=b
 ·subst hab
  simp [run_underlying und48,sizeOf,typeInfo,hi,hs,run_sameAddr_same,Result.andThen]
 ·simp [run_underlying und48,sizeOf,typeInfo,hi,hs,run_sameAddr_other w hab ha hb,Result.andThen,hab]
def findAt (a:Addr):List (Addr × Int)→Nat→Option (Nat × Int)
 | [],_=>none
 | x::r,i=>if a=x.1 then some (i,x.2) else findAt a r (i+1)
theorem run_findAsking {w:World} {a:Addr} (ha:rowBlk w a.block):∀ (es:List MapEntry) (L:List (Addr × Int)) (i:Nat),es.map (fun e=>(e.key,e.val))=L.map (fun x=>(Value.pointer (some x.1),Value.int .i64 x.2))→(∀ x ∈ L,rowBlk w x.1.block) →
  (Instr.findAsking 188 (.pointer (some a)) es i).run Tryd.prog w = .ok ((findAt a L i).map fun y=>(y.1,.int .i64 y.2)) w
 | [],[],_,_,_=>rfl
 | [],_::_,_,h,_=>by simp at h
 | _::_,[],_,h,_=>by simp at h
 | e::es,x::L,i,h,hb=>by
  simp only [List.map_cons,List.cons.injEq,Prod.mk.injEq] at h
  obtain ⟨⟨hk,hv⟩,h⟩:=h
  have ih:=run_findAsking ha es L (i+1) h (fun y hy=>hb y (List.mem_cons_of_mem _ hy))
  unfold Instr.findAsking findAt
  rw [hk,hv]
  have heq:=run_equal_ptr ha (hb x List.mem_cons_self)
  by_cases hax:a=x.1
  ·simp [hax,Result.andThen] at heq ⊢
   simp [heq]
  ·simp [heq,hax,ih,Result.andThen]
theorem run_findKey_ptr {w:World} {a:Addr} (ha:rowBlk w a.block) (es:List MapEntry) (L:List (Addr × Int)) (h:es.map (fun e=>(e.key,e.val))=L.map (fun x=>(Value.pointer (some x.1),Value.int .i64 x.2))) (hb:∀ x ∈ L,rowBlk w x.1.block) :
  (Instr.findKey 188 (.pointer (some a)) es).run Tryd.prog w = .ok ((findAt a L 0).map fun y=>(y.1,.int .i64 y.2)) w:=by
 unfold Instr.findKey
 cases es with
 | nil =>
  cases L with
  | nil=>simp [run_underlying und48,Instr.findNow,findAt,Result.andThen]
  | cons _ _=>simp at h
 | cons e es =>
  have:=run_findAsking ha (e::es) L 0 h hb
  have hn:Instr.findNow (.pointer 123) (.pointer (some a)) (e::es) 0=none:=by
   unfold Instr.findNow
   simp [Instr.sameNow]
  simp [run_underlying und48,hn,this,Result.andThen]
theorem run_checkKey_ptr {w:World} {a:Addr} (e:Bool):(Instr.checkKey e 10000 188 (.pointer (some a))).run Tryd.prog w = .ok () w:=by
 show (Instr.checkKey e (9999+1) 188 (.pointer (some a))).run Tryd.prog w = .ok () w
 unfold Instr.checkKey
 simp [run_underlying und48,Result.andThen]
theorem findAt_lookup (a:Addr):∀ (L:List (Addr × Int)) (i:Nat),(findAt a L i).map (·.2)=L.lookup a
 | [],_=>rfl
 | x::r,i=>by
  unfold findAt
  by_cases h:a=x.1
  ·simp [h,List.lookup]
  ·have h':(a == x.1)=false:=by simpa using h
   simp [h,List.lookup,h',findAt_lookup a r (i+1)]
def MapF (w:World) (B:Nat) (M:Addr→Option Int):Prop:=∃ L,MapIs w B L∧∀ a,L.lookup a=M a
theorem run_lookup_ok {w:World} {B:Nat} {M:Addr→Option Int} {a:Addr} (h:MapF w B M) (ha:rowBlk w a.block) :
  (Instr.lookup 185 (.map (some B)) (.pointer (some a)) true).run Tryd.prog w = .ok (.tuple #[.int .i64 ((M a).getD 0),.bool (M a).isSome]) w:=by
 obtain ⟨L,⟨⟨es,clock,hh,hes⟩,hb⟩,hM⟩:=h
 have h1:=run_findKey_ptr ha es.toList L hes hb
 have h2:=findAt_lookup a L 0
 rw [hM] at h2
 unfold Instr.lookup
 cases hf:findAt a L 0 with
 | none=>simp [hf] at h1 h2;simp [run_underlying und45,Go.MapKept.run_getObj_map hh,run_checkKey_ptr,h1,← h2,Result.andThen]
 | some y=>simp [hf] at h1 h2;simp [run_underlying und45,Go.MapKept.run_getObj_map hh,run_checkKey_ptr,h1,← h2,Result.andThen]
theorem run_lookup_plain {w:World} {B:Nat} {M:Addr→Option Int} {a:Addr} (h:MapF w B M) (ha:rowBlk w a.block) :
  (Instr.lookup 185 (.map (some B)) (.pointer (some a)) false).run Tryd.prog w = .ok (.int .i64 ((M a).getD 0)) w:=by
 obtain ⟨L,⟨⟨es,clock,hh,hes⟩,hb⟩,hM⟩:=h
 have h1:=run_findKey_ptr ha es.toList L hes hb
 have h2:=findAt_lookup a L 0
 rw [hM] at h2
 unfold Instr.lookup
 cases hf:findAt a L 0 with
 | none=>simp [hf] at h1 h2;simp [run_underlying und45,Go.MapKept.run_getObj_map hh,run_checkKey_ptr,h1,← h2,Result.andThen]
 | some y=>simp [hf] at h1 h2;simp [run_underlying und45,Go.MapKept.run_getObj_map hh,run_checkKey_ptr,h1,← h2,Result.andThen]
structure ButAt (B:Nat) (w w':World):Prop where
 os:w'.os=w.os
 tape:w'.tape=w.tape
 output:w'.output=w.output
 size:w'.heap.size=w.heap.size
 block:∀ k,k≠B→w'.heap[k]?=w.heap[k]?
theorem ButAt.below {B:Nat} {w w':World} (h:ButAt B w w'):Below B w w':=⟨h.os,h.tape,h.output,Nat.le_of_eq h.size.symm,fun k hk=>h.block k (by omega)⟩
theorem ButAt.rowBlk {B g:Nat} {w w':World} {es:Array MapEntry} {c:Nat} (h:ButAt B w w') (hB:w.heap[B]?=some (.map es c)) (hb:rowBlk w g):rowBlk w' g:=by
 obtain ⟨cur,hc⟩:=hb
 exact ⟨cur,(h.block g (fun e=>by subst e;rw [hB] at hc;cases hc)).trans hc⟩
def putAt (a:Addr) (z:Int):List (Addr × Int)→List (Addr × Int)
 | []=>[(a,z)]
 | x::r=>if a=x.1 then (a,z)::r else x::putAt a z r
theorem putAt_none {a:Addr} {z:Int}:∀ (L:List (Addr × Int)) (i:Nat),findAt a L i=none→putAt a z L=L++[(a,z)]
 | [],_,_=>rfl
 | x::r,i,h=>by
  unfold findAt at h
  unfold putAt
  by_cases hx:a=x.1
  ·simp [hx] at h
  ·simp [hx] at h ⊢
   exact putAt_none r (i+1) h
theorem putAt_some {a:Addr} {z c:Int}:∀ (L:List (Addr × Int)) (i k:Nat),findAt a L i=some (k,c)→i≤k∧k - i<L.length∧L[k - i]?=some (a,c)∧putAt a z L=L.set (k - i) (a,z)
 | [],_,_,h=>by simp [findAt] at h
 | x::r,i,k,h=>by
  unfold findAt at h
  unfold putAt
  by_cases hx:a=x.1
  ·simp [hx] at h
   obtain ⟨rfl,rfl⟩:=h
   subst hx
   simp
  ·simp [hx] at h
   obtain ⟨h1,h2,h3,h4⟩:=putAt_some (z:=z) r (i+1) k h
   have e:k - i=(k - (i+1))+1:=by omega
   rw [e]
   refine ⟨by omega,by simp;omega,by simpa using h3,by simp [hx,h4]⟩
theorem lookup_at (b:Addr) (x:Addr × Int) (r:List (Addr × Int)):(x::r).lookup b=if b=x.1 then some x.2 else r.lookup b:=by
 obtain ⟨k,v⟩:=x
 by_cases h:b=k
 ·subst h;simp
 ·have h':(b == k)=false:=by simpa using h
  simp [List.lookup,h',h]
theorem putAt_lookup {a b:Addr} {z:Int}:∀ (L:List (Addr × Int)),(putAt a z L).lookup b=if b=a then some z else L.lookup b
 | []=>by
  unfold putAt
  rw [lookup_at]
 | x::r=>by
  unfold putAt
  by_cases hx:a=x.1
  ·rw [if_pos hx,lookup_at,lookup_at]
   by_cases h:b=a
   ·rw [if_pos h,if_pos h]
   ·rw [if_neg h,if_neg h,if_neg (by rw [← hx];exact h)]
  ·rw [if_neg hx,lookup_at,lookup_at,putAt_lookup r]
   by_cases hb:b=x.1
   ·rw [if_pos hb,if_pos hb,if_neg (fun e:b=a=>hx (by rw [← e];exact hb))]
   ·rw [if_neg hb,if_neg hb]
theorem putAt_mem {a:Addr} {z:Int}:∀ (L:List (Addr × Int)) (x:Addr × Int),x ∈ putAt a z L→x=(a,z)∨x ∈ L
 | [],x,h=>by simp [putAt] at h;exact .inl h
 | y::r,x,h=>by
  unfold putAt at h
  by_cases hx:a=y.1
  ·simp [hx] at h
   rcases h with h | h
   ·left;rw [h,hx]
   ·exact .inr (List.mem_cons_of_mem _ h)
  ·simp [hx] at h
   rcases h with h | h
   ·exact .inr (h ▸ List.mem_cons_self)
   ·rcases putAt_mem r x h with h | h
    ·exact .inl h
    ·exact .inr (List.mem_cons_of_mem _ h)
theorem run_mapUpdate_ptr {w:World} {B:Nat} {M:Addr→Option Int} {a:Addr} {z:Int} (h:MapF w B M) (ha:rowBlk w a.block) :
  ∃ w',(Instr.mapUpdate 185 (.map (some B)) (.pointer (some a)) (.int .i64 z)).run Tryd.prog w = .ok () w'∧MapF w' B (fun b=>if b=a then some z else M b)∧ButAt B w w':=by
 obtain ⟨L,⟨⟨es,clock,hh,hes⟩,hb⟩,hM⟩:=h
 have h1:=run_findKey_ptr ha es.toList L hes hb
 have hlt:B<w.heap.size:=(Array.getElem?_eq_some_iff.1 hh).1
 have but:∀ o,ButAt B w { w with heap:=w.heap.setIfInBounds B o }:=fun o=>⟨rfl,rfl,rfl,by simp,fun k hk=>by
  show (w.heap.setIfInBounds B o)[k]?=_
  rw [Array.getElem?_setIfInBounds,if_neg (fun e=>hk e.symm)]⟩
 have at':∀ o,({ w with heap:=w.heap.setIfInBounds B o }:World).heap[B]?=some o:=fun o=>by
  show (w.heap.setIfInBounds B o)[B]?=_
  rw [Array.getElem?_setIfInBounds,if_pos rfl,if_pos hlt]
 have fin:∀ es' clock',es'.toList.map (fun e=>(e.key,e.val))=(putAt a z L).map (fun x=>(Value.pointer (some x.1),Value.int .i64 x.2)) →
   MapF { w with heap:=w.heap.setIfInBounds B (.map es' clock') } B (fun b=>if b=a then some z else M b):=by
  intro es' clock' he
  refine ⟨putAt a z L,⟨⟨es',clock',at' _,he⟩,fun x hx=>?_⟩,fun b=>by rw [putAt_lookup,hM]⟩
  have:rowBlk w x.1.block:=by
   rcases putAt_mem L x hx with rfl | hx
   ·exact ha
   ·exact hb x hx
  exact (but _).rowBlk hh this
 unfold Instr.mapUpdate
 cases hf:findAt a L 0 with
 | none =>
  simp [hf] at h1
  refine ⟨{ w with heap:=w.heap.setIfInBounds B (.map (es.push { key:=.pointer (some a),val:=.int .i64 z,born:=clock }) (clock+1)) },by simp [run_underlying und45,Go.MapKept.run_getObj_map hh,run_checkKey_ptr,h1,Go.MapKept.run_setObj_map _ hh,Result.andThen],?_,but _⟩
  refine fin _ _ ?_
  rw [putAt_none L 0 hf]
  simp [hes]
 | some y =>
  obtain ⟨k,c⟩:=y
  simp [hf] at h1
  obtain ⟨-,hk,hat,hput⟩:=putAt_some (z:=z) L 0 k hf
  simp only [Nat.sub_zero] at hk hat hput
  have hlen:es.toList.length=L.length:=by simpa using congrArg List.length hes
  have hk':k<es.size:=by rw [← Array.length_toList];omega
  have hkey:es[k].key = .pointer (some a):=by
   have:=congrArg (fun l=>l[k]?) hes
   simp [hat,hk'] at this
   exact this.1
  have hstay:(Instr.keyThatStays es[k].key (.pointer (some a))).run Tryd.prog w = .ok (.pointer (some a)) w:=by
   rw [hkey]
   simp [Instr.keyThatStays,Instr.sameBits]
  have hge:es[k]?=some es[k]:=by simp [hk']
  refine ⟨{ w with heap:=w.heap.setIfInBounds B (.map (es.modify k fun e=>{ e with key:=.pointer (some a),val:=.int .i64 z }) clock) },by simp [run_underlying und45,Go.MapKept.run_getObj_map hh,run_checkKey_ptr,h1,hk',hstay,Go.MapKept.run_setObj_map _ hh,Result.andThen],?_,but _⟩
  refine fin _ _ ?_
  rw [hput,List.map_set,← hes]
  apply List.ext_getElem?
  intro m
  simp only [Array.toList_modify,List.getElem?_map,List.getElem?_modify,List.getElem?_set,List.length_map,Array.length_toList]
  by_cases hm:k=m
  ·subst hm
   simp [hk']
  ·simp [hm]
end Go.Proofs.YtnkgbkkakokciacDoor.B
namespace Go.Proofs.YtnkgbkkakokciacDoor.B
open Go.ChangeShapes Go.WideShapes Go.ChangeAt Go.RowKit
inductive AT where
 | mk (ad:Addr) (b l:List AT)
def AT.ad:AT→Addr | .mk ad _ _=>ad
def AT.b:AT→List AT | .mk _ b _=>b
def AT.l:AT→List AT | .mk _ _ l=>l
mutual
def AT.count:AT→Nat
 | .mk _ b l=>1+AT.countAll b+AT.countAll l
def AT.countAll:List AT→Nat
 | []=>0
 | x::r=>x.count+AT.countAll r
end
def AT.inner (t:AT):Int:=AT.countAll t.b+AT.countAll t.l
theorem AT.ad_mk (ad:Addr) (b l:List AT):(AT.mk ad b l).ad=ad:=rfl
theorem AT.b_mk (ad:Addr) (b l:List AT):(AT.mk ad b l).b=b:=rfl
theorem AT.l_mk (ad:Addr) (b l:List AT):(AT.mk ad b l).l=l:=rfl
theorem AT.inner_mk (ad:Addr) (b l:List AT):(AT.mk ad b l).inner=(AT.countAll b:Int)+(AT.countAll l:Int):=rfl
def AT.full (t:AT):Bool:=decide (0<t.b.length+t.l.length)
def AT.kids (ts:List AT):List AT:=ts.filter AT.full
mutual
def AT.addrs:AT→List Addr
 | .mk ad b l=>ad::(AT.addrsAll b++AT.addrsAll l)
def AT.addrsAll:List AT→List Addr
 | []=>[]
 | x::r=>x.addrs++AT.addrsAll r
end
mutual
def AT.cost:AT→Nat
 | .mk _ b l=>2+AT.costAll b+AT.costAll l
def AT.costAll:List AT→Nat
 | []=>0
 | x::r=>x.cost+AT.costAll r
end
def upd (M:Addr→Option Int) (a:Addr) (z:Int):Addr→Option Int:=fun b=>if b=a then some z else M b
def Reach (F:(Addr→Option Int)→Prop):Nat→List AT→(Addr→Option Int)→Prop
 | _,[],M=>F M
 | 0,_::_,_=>False
 | n+1,t::st,M =>
  (M t.ad=none∧(∀ k ∈ t.b++t.l,upd M t.ad 9223372036854775807 k.ad=none)∧Reach F n ((AT.kids t.l).reverse++((AT.kids t.b).reverse++t::st)) (upd M t.ad 9223372036854775807)) ∨
  ((∃ c,M t.ad=some c)∧(∀ k ∈ t.b++t.l,(M k.ad).getD 0=k.inner)∧Reach F n st (upd M t.ad t.inner))
theorem Reach.succ (F:(Addr→Option Int)→Prop):∀ (n:Nat) (st:List AT) (M:Addr→Option Int),Reach F n st M→Reach F (n+1) st M
 | n,[],M,h=>by unfold Reach at h ⊢;exact h
 | 0,_::_,_,h=>by unfold Reach at h;exact h.elim
 | n+1,t::st,M,h=>by
  unfold Reach at h
  unfold Reach
  rcases h with ⟨h1,h2,h3⟩ | ⟨h1,h2,h3⟩
  ·exact .inl ⟨h1,h2,Reach.succ F n _ _ h3⟩
  ·exact .inr ⟨h1,h2,Reach.succ F n _ _ h3⟩
theorem Reach.more (F:(Addr→Option Int)→Prop) (n:Nat):∀ (m:Nat) (st:List AT) (M:Addr→Option Int),Reach F n st M→Reach F (n+m) st M
 | 0,_,_,h=>h
 | m+1,st,M,h=>Reach.succ F (n+m) st M (Reach.more F n m st M h)
theorem AT.ad_mem (t:AT):t.ad ∈ t.addrs:=by
 cases t
 unfold AT.addrs AT.ad
 simp
theorem AT.mem_addrsAll:∀ (ts:List AT) (t:AT),t ∈ ts→∀ a ∈ t.addrs,a ∈ AT.addrsAll ts
 | x::r,t,h,a,ha=>by
  unfold AT.addrsAll
  rcases List.mem_cons.1 h with rfl | h
  ·exact List.mem_append_left _ ha
  ·exact List.mem_append_right _ (AT.mem_addrsAll r t h a ha)
theorem AT.kids_mem {ts:List AT} {t:AT} (h:t ∈ AT.kids ts):t ∈ ts:=(List.mem_filter.1 h).1
theorem AT.empty_inner {t:AT} (h:t.full=false):t.inner=0:=by
 obtain ⟨ad,b,l⟩:=t
 have h':¬ 0<b.length+l.length:=of_decide_eq_false h
 have hb:b=[]:=List.eq_nil_of_length_eq_zero (by omega)
 have hl:l=[]:=List.eq_nil_of_length_eq_zero (by omega)
 subst hb hl
 rw [AT.inner_mk]
 simp [AT.countAll]
mutual
theorem Reach.one (F:(Addr→Option Int)→Prop):∀ (t:AT),t.full=true→t.addrs.Nodup→∀ (n:Nat) (st:List AT) (M:Addr→Option Int),(∀ a ∈ t.addrs,M a=none) →
  (∀ M',M' t.ad=some t.inner→(∀ a,a ∉ t.addrs→M' a=M a)→Reach F n st M')→Reach F (n+t.cost) (t::st) M
 | .mk ad b l,_,hnd,n,st,M,hM,hK=>by
  have e:n+(AT.mk ad b l).cost=(((n+1)+AT.costAll b)+AT.costAll l)+1:=by simp only [AT.cost];omega
  rw [e]
  unfold AT.addrs at hnd hM hK
  simp only [AT.ad_mk,AT.inner_mk] at hK
  rw [List.nodup_cons,List.nodup_append] at hnd
  obtain ⟨h1,h2,h3,h4⟩:=hnd
  have hb:∀ a ∈ AT.addrsAll b,a≠ad∧M a=none:=fun a ha=>⟨fun e=>h1 (by rw [← e];simp [ha]),hM a (by simp [ha])⟩
  have hl:∀ a ∈ AT.addrsAll l,a≠ad∧M a=none:=fun a ha=>⟨fun e=>h1 (by rw [← e];simp [ha]),hM a (by simp [ha])⟩
  show Reach F (((n+1+AT.costAll b)+AT.costAll l)+1) (AT.mk ad b l::st) M
  unfold Reach
  left
  simp only [AT.ad_mk,AT.b_mk,AT.l_mk]
  refine ⟨hM ad (by simp),?_,?_⟩
  ·intro k hk
   have:k.ad≠ad∧M k.ad=none:=by
    rcases List.mem_append.1 hk with hk | hk
    ·exact hb _ (AT.mem_addrsAll b k hk _ k.ad_mem)
    ·exact hl _ (AT.mem_addrsAll l k hk _ k.ad_mem)
   unfold upd
   rw [if_neg this.1]
   exact this.2
  ·refine Reach.all F l h3 _ _ _ (fun a ha=>by unfold upd;rw [if_neg (hl a ha).1];exact (hl a ha).2) fun M1 q1 q2=>?_
   refine Reach.all F b h2 _ _ _ (fun a ha=>?_) fun M2 r1 r2=>?_
   ·rw [q2 a (fun h=>h4 a ha a h rfl)]
    unfold upd
    rw [if_neg (hb a ha).1]
    exact (hb a ha).2
   ·have had:M2 ad=some 9223372036854775807:=by
     rw [r2 ad (fun h=>h1 (by simp [h])),q2 ad (fun h=>h1 (by simp [h]))]
     simp [upd]
    unfold Reach
    right
    simp only [AT.ad_mk,AT.b_mk,AT.l_mk,AT.inner_mk]
    refine ⟨⟨_,had⟩,fun k hk=>?_,?_⟩
    ·rcases List.mem_append.1 hk with hk | hk
     ·exact r1 k hk
     ·rw [r2 k.ad (fun h=>h4 _ h _ (AT.mem_addrsAll l k hk _ k.ad_mem) rfl)]
      exact q1 k hk
    ·refine hK _ (by simp [upd]) fun a ha=>?_
     simp at ha
     unfold upd
     rw [if_neg ha.1,r2 a ha.2.1,q2 a ha.2.2]
     simp [upd,ha.1]
theorem Reach.all (F:(Addr→Option Int)→Prop):∀ (ts:List AT),(AT.addrsAll ts).Nodup→∀ (n:Nat) (st:List AT) (M:Addr→Option Int),(∀ a ∈ AT.addrsAll ts,M a=none) →
  (∀ M',(∀ t ∈ ts,(M' t.ad).getD 0=t.inner)→(∀ a,a ∉ AT.addrsAll ts→M' a=M a)→Reach F n st M')→Reach F (n+AT.costAll ts) ((AT.kids ts).reverse++st) M
 | [],_,n,st,M,_,hK=>by
  simp only [AT.costAll,AT.kids,List.filter_nil,List.reverse_nil,List.nil_append]
  exact hK M (by simp) (fun _ _=>rfl)
 | t::r,hnd,n,st,M,hM,hK=>by
  unfold AT.addrsAll at hnd hM hK
  rw [List.nodup_append] at hnd
  obtain ⟨h1,h2,h3⟩:=hnd
  have e:n+AT.costAll (t::r)=(n+t.cost)+AT.costAll r:=by simp only [AT.costAll];omega
  rw [e]
  have tl:∀ M1,(∀ k ∈ r,(M1 k.ad).getD 0=k.inner)→(∀ a,a ∉ AT.addrsAll r→M1 a=M a)→Reach F (n+t.cost) ((AT.kids [t]).reverse++st) M1:=by
   intro M1 q1 q2
   have hnone:∀ a ∈ t.addrs,M1 a=none:=fun a ha=>by rw [q2 a (fun h=>h3 a ha a h rfl)];exact hM a (by simp [ha])
   have rest:∀ M',(M' t.ad).getD 0=t.inner→(∀ a,a ∉ t.addrs→M' a=M1 a)→Reach F n st M':=by
    intro M' p1 p2
    refine hK M' (fun k hk=>?_) (fun a ha=>?_)
    ·rcases List.mem_cons.1 hk with rfl | hk
     ·exact p1
     ·rw [p2 k.ad (fun h=>h3 _ h _ (AT.mem_addrsAll r k hk _ k.ad_mem) rfl)]
      exact q1 k hk
    ·simp at ha
     rw [p2 a ha.1,q2 a ha.2]
   by_cases hf:t.full=true
   ·simp only [AT.kids,List.filter_cons,hf,if_true,List.filter_nil,List.reverse_cons,List.reverse_nil,List.nil_append,List.cons_append]
    exact Reach.one F t hf h1 n st M1 hnone fun M' p1 p2=>rest M' (by rw [p1];rfl) p2
   ·have hf':t.full=false:=by simpa using hf
    simp only [AT.kids,List.filter_cons,hf',Bool.false_eq_true,if_false,List.filter_nil,List.reverse_nil,List.nil_append]
    have:=rest M1 (by rw [hnone _ t.ad_mem,AT.empty_inner hf'];rfl) (fun _ _=>rfl)
    exact Reach.more F _ _ _ _ this
  have hk:(AT.kids (t::r)).reverse++st=(AT.kids r).reverse++((AT.kids [t]).reverse++st):=by
   simp only [AT.kids,List.filter_cons,List.filter_nil]
   split <;> simp
  rw [hk]
  exact Reach.all F r h2 _ _ _ (fun a ha=>hM a (by simp [ha])) tl
end
end Go.Proofs.YtnkgbkkakokciacDoor.B
namespace Go.Proofs.YtnkgbkkakokciacDoor.B
open Go.ChangeShapes Go.WideShapes Go.ChangeAt Go.RowKit
mutual
def AT.In (w:World):AT→Prop
 | .mk ad b l=>rowBlk w ad.block ∧
   (∃ x c,w.cell? ⟨ad.block,ad.off+12,none⟩=some (.slice x b.length c)∧(b=[]∨∃ g,x=some ⟨g,0,none⟩∧AT.Row w b g 0)) ∧
   (∃ x c,w.cell? ⟨ad.block,ad.off+13,none⟩=some (.slice x l.length c)∧(l=[]∨∃ g,x=some ⟨g,0,none⟩∧AT.Row w l g 0))
def AT.Row (w:World):List AT→Nat→Nat→Prop
 | [],_,_=>True
 | t::r,g,o=>t.ad=⟨g,o,none⟩∧AT.In w t∧AT.Row w r g (o+14)
end
def AT.Sl (w:World) (ts:List AT) (v:Value):Prop:=∃ x c,v = .slice x ts.length c∧(ts=[]∨∃ g,x=some ⟨g,0,none⟩∧AT.Row w ts g 0)
theorem rowBlk.below {w w':World} {g:Nat} (h:rowBlk w g) (hb:Below w.heap.size w w'):rowBlk w' g:=by
 obtain ⟨cur,hc⟩:=h
 exact ⟨cur,(hb.block g (Array.getElem?_eq_some_iff.1 hc).1).trans hc⟩
mutual
theorem AT.In.below {w w':World} (hb:Below w.heap.size w w'):∀ (t:AT),t.In w→t.In w'
 | .mk ad b l,h=>by
  unfold AT.In at h ⊢
  obtain ⟨h0,⟨x,c,h1,h2⟩,⟨y,d,h3,h4⟩⟩:=h
  refine ⟨h0.below hb,⟨x,c,below_cell hb h1,?_⟩,⟨y,d,below_cell hb h3,?_⟩⟩
  ·rcases h2 with h | ⟨g,hg,h⟩
   ·exact .inl h
   ·exact .inr ⟨g,hg,AT.Row.below hb b h⟩
  ·rcases h4 with h | ⟨g,hg,h⟩
   ·exact .inl h
   ·exact .inr ⟨g,hg,AT.Row.below hb l h⟩
theorem AT.Row.below {w w':World} (hb:Below w.heap.size w w'):∀ (ts:List AT) {g o:Nat},AT.Row w ts g o→AT.Row w' ts g o
 | [],_,_,_=>by unfold AT.Row;trivial
 | t::r,g,o,h=>by
  unfold AT.Row at h ⊢
  exact ⟨h.1,AT.In.below hb t h.2.1,AT.Row.below hb r h.2.2⟩
end
theorem AT.Sl.below {w w':World} (hb:Below w.heap.size w w') {ts:List AT} {v:Value} (h:AT.Sl w ts v):AT.Sl w' ts v:=by
 obtain ⟨x,c,hv,h⟩:=h
 refine ⟨x,c,hv,?_⟩
 rcases h with h | ⟨g,hg,h⟩
 ·exact .inl h
 ·exact .inr ⟨g,hg,h.below hb⟩
theorem AT.Row.get {w:World}:∀ (ts:List AT) {g o:Nat},AT.Row w ts g o→∀ (j:Nat) (t:AT),ts[j]?=some t→t.ad=⟨g,o+j*14,none⟩∧t.In w
 | [],_,_,_,_,_,h=>by simp at h
 | t::r,g,o,h,0,x,hx=>by
  unfold AT.Row at h
  simp at hx
  subst hx
  simpa using ⟨h.1,h.2.1⟩
 | t::r,g,o,h,j+1,x,hx=>by
  unfold AT.Row at h
  have:=AT.Row.get r h.2.2 j x (by simpa using hx)
  rwa [show o+14+j*14=o+(j+1)*14 by omega] at this
theorem AT.In.parts {w:World} {t:AT} (h:t.In w):rowBlk w t.ad.block∧(∃ x c,w.cell? ⟨t.ad.block,t.ad.off+12,none⟩=some (.slice x t.b.length c)∧AT.Sl w t.b (.slice x t.b.length c)) ∧
  (∃ x c,w.cell? ⟨t.ad.block,t.ad.off+13,none⟩=some (.slice x t.l.length c)∧AT.Sl w t.l (.slice x t.l.length c)):=by
 obtain ⟨ad,b,l⟩:=t
 unfold AT.In at h
 obtain ⟨h0,⟨x,c,h1,h2⟩,⟨y,d,h3,h4⟩⟩:=h
 exact ⟨h0,⟨x,c,h1,⟨x,c,rfl,h2⟩⟩,⟨y,d,h3,⟨y,d,rfl,h4⟩⟩⟩
mutual
theorem St.InQ.seen {p:Nat→Prop} {w:World}:∀ (s:St) {x:Nat→Value} {bl:List Nat} {g o:Nat},(∀ j,j<14→w.cell? ⟨g,o+j,none⟩=some (x j))→s.InQ p w (stVal x) bl→rowBlk w g→bl.Nodup→g ∉ bl →
  ∃ t:AT,t.ad=⟨g,o,none⟩∧t.In w∧t.count=s.count∧t.addrs.Nodup∧∀ a ∈ t.addrs,a=⟨g,o,none⟩∨a.block ∈ bl
 | .mk k n e ck ca cb b l,x,bl,g,o,hx,h,hg,hnd,hni=>by
  unfold St.InQ at h
  obtain ⟨e0,e1,e2,a0,a1,a2,b0,b1,b2,sb,sl,hv,-,-,-,q1,q2,hq,⟨ad,c,h4,h5⟩,⟨ad',c',h6,h7⟩⟩:=h
  subst hq
  unfold stVal at hv
  simp only [Value.agg.injEq,Array.mk.injEq,List.cons.injEq,and_true] at hv
  obtain ⟨-,-,-,-,-,-,-,-,-,-,-,-,v12,v13⟩:=hv
  rw [List.nodup_append] at hnd
  obtain ⟨n1,n2,n3⟩:=hnd
  obtain ⟨tb,c12,s12,k12,m12,z12⟩:∃ ts:List AT,ts.length=b.length∧(ts=[]∨∃ g,ad=some ⟨g,0,none⟩∧AT.Row w ts g 0)∧AT.countAll ts=St.countAll b∧(AT.addrsAll ts).Nodup∧∀ a ∈ AT.addrsAll ts,a.block ∈ q1:=by
   rcases h5 with ⟨rfl,rfl⟩ | ⟨hne,g',q,hg',hp,rfl,hr⟩
   ·exact ⟨[],rfl,.inl rfl,by simp [AT.countAll,St.countAll],by simp [AT.addrsAll],by simp [AT.addrsAll]⟩
   ·rw [List.nodup_cons] at n1
    obtain ⟨ts,r1,r2,r3,r4,r5⟩:=St.RowQ.seen b hr hp.2 n1.2 n1.1
    refine ⟨ts,r2,.inr ⟨g',hg',r1⟩,r3,r4,fun a ha=>?_⟩
    rcases r5 a ha with h | h
    ·simp [h.1]
    ·exact List.mem_cons_of_mem _ h
  obtain ⟨tl,c13,s13,k13,m13,z13⟩:∃ ts:List AT,ts.length=l.length∧(ts=[]∨∃ g,ad'=some ⟨g,0,none⟩∧AT.Row w ts g 0)∧AT.countAll ts=St.countAll l∧(AT.addrsAll ts).Nodup∧∀ a ∈ AT.addrsAll ts,a.block ∈ q2:=by
   rcases h7 with ⟨rfl,rfl⟩ | ⟨hne,g',q,hg',hp,rfl,hr⟩
   ·exact ⟨[],rfl,.inl rfl,by simp [AT.countAll,St.countAll],by simp [AT.addrsAll],by simp [AT.addrsAll]⟩
   ·rw [List.nodup_cons] at n2
    obtain ⟨ts,r1,r2,r3,r4,r5⟩:=St.RowQ.seen l hr hp.2 n2.2 n2.1
    refine ⟨ts,r2,.inr ⟨g',hg',r1⟩,r3,r4,fun a ha=>?_⟩
    rcases r5 a ha with h | h
    ·simp [h.1]
    ·exact List.mem_cons_of_mem _ h
  refine ⟨.mk ⟨g,o,none⟩ tb tl,rfl,?_,by simp only [AT.count,St.count,k12,k13],?_,?_⟩
  ·unfold AT.In
   refine ⟨hg,⟨ad,c,?_,s12⟩,⟨ad',c',?_,s13⟩⟩
   ·rw [c12,← h4,← v12];exact hx 12 (by omega)
   ·rw [c13,← h6,← v13];exact hx 13 (by omega)
  ·unfold AT.addrs
   rw [List.nodup_cons,List.nodup_append]
   refine ⟨fun h=>?_,m12,m13,fun a ha a' ha' e=>?_⟩
   ·rcases List.mem_append.1 h with h | h
    ·exact hni (List.mem_append_left _ (z12 _ h))
    ·exact hni (List.mem_append_right _ (z13 _ h))
   ·subst e
    exact n3 _ (z12 _ ha) _ (z13 _ ha') rfl
  ·unfold AT.addrs
   intro a ha
   rcases List.mem_cons.1 ha with h | h
   ·exact .inl h
   ·rcases List.mem_append.1 h with h | h
    ·exact .inr (List.mem_append_left _ (z12 _ h))
    ·exact .inr (List.mem_append_right _ (z13 _ h))
theorem St.RowQ.seen {p:Nat→Prop} {w:World}:∀ (a:List St) {g o:Nat} {bl:List Nat},St.RowQ p w a g o bl→rowBlk w g→bl.Nodup→g ∉ bl →
  ∃ ts:List AT,AT.Row w ts g o∧ts.length=a.length∧AT.countAll ts=St.countAll a∧(AT.addrsAll ts).Nodup∧∀ x ∈ AT.addrsAll ts,(x.block=g∧o≤x.off)∨x.block ∈ bl
 | [],_,_,_,_,_,_,_=>⟨[],by unfold AT.Row;trivial,rfl,by simp [AT.countAll,St.countAll],by simp [AT.addrsAll],by simp [AT.addrsAll]⟩
 | s::r,g,o,bl,h,hg,hnd,hni=>by
  unfold St.RowQ at h
  obtain ⟨q1,q2,hq,⟨x,h0,h3⟩,h4⟩:=h
  subst hq
  rw [List.nodup_append] at hnd
  obtain ⟨n1,n2,n3⟩:=hnd
  obtain ⟨t,t1,t2,t3,t4,t5⟩:=St.InQ.seen s h0 h3 hg n1 (fun h=>hni (List.mem_append_left _ h))
  obtain ⟨ts,r1,r2,r3,r4,r5⟩:=St.RowQ.seen r h4 hg n2 (fun h=>hni (List.mem_append_right _ h))
  refine ⟨t::ts,by unfold AT.Row;exact ⟨t1,t2,r1⟩,by simp [r2],by simp only [AT.countAll,St.countAll,t3,r3],?_,?_⟩
  ·unfold AT.addrsAll
   rw [List.nodup_append]
   refine ⟨t4,r4,fun a ha a' ha' e=>?_⟩
   subst e
   rcases t5 a ha with h | h
   ·rcases r5 a ha' with h' | h'
    ·rw [h] at h';simp at h';omega
    ·rw [h] at h';exact hni (List.mem_append_right _ h')
   ·rcases r5 a ha' with h' | h'
    ·rw [h'.1] at h;exact hni (List.mem_append_left _ h)
    ·exact n3 _ h _ h' rfl
  ·unfold AT.addrsAll
   intro a ha
   rcases List.mem_append.1 ha with h | h
   ·rcases t5 a h with h | h
    ·left;rw [h];exact ⟨rfl,Nat.le_refl _⟩
    ·exact .inr (List.mem_append_left _ h)
   ·rcases r5 a h with h | h
    ·left;exact ⟨h.1,by omega⟩
    ·exact .inr (List.mem_append_right _ h)
end
theorem St.SlQ.seen {p:Nat→Prop} {w:World} {a:List St} {v:Value} {bl:List Nat} (h:St.SlQ p w a v bl) (hnd:bl.Nodup):∃ ts:List AT,AT.Sl w ts v∧AT.countAll ts=St.countAll a∧(AT.addrsAll ts).Nodup:=by
 obtain ⟨ad,c,hv,h⟩:=h
 rcases h with ⟨rfl,rfl⟩ | ⟨hne,g,q,hg,hp,rfl,hr⟩
 ·exact ⟨[],⟨ad,c,hv,.inl rfl⟩,by simp [AT.countAll,St.countAll],by simp [AT.addrsAll]⟩
 ·rw [List.nodup_cons] at hnd
  obtain ⟨ts,r1,r2,r3,r4,-⟩:=hr.seen a hp.2 hnd.2 hnd.1
  exact ⟨ts,⟨ad,c,by rw [r2];exact hv,.inr ⟨g,hg,r1⟩⟩,r3,r4⟩
end Go.Proofs.YtnkgbkkakokciacDoor.B
namespace Go.Proofs.YtnkgbkkakokciacDoor.B
open Go.ChangeShapes Go.WideShapes Go.ChangeAt Go.RowKit
theorem plus_any (a b:Int) (w:World) (ha:0≤a) (hb:0≤b) (hab:a+b≤4611686018427387904):Calls Tryd.prog 117 #[.int .i64 a,.int .i64 b] w fun r w'=>r = .returned (.int .i64 (a+b))∧w'=w:=by
 go_enter Tryd.func117,Tryd.ntmps117
 go_wp2
 all_goals go_ret
 exact ⟨rfl,rfl⟩
def AT.innerAll:List AT→Int
 | []=>0
 | t::r=>t.inner+AT.innerAll r
theorem AT.count_inner (t:AT):(t.count:Int)=1+t.inner:=by
 obtain ⟨ad,b,l⟩:=t
 rw [AT.inner_mk]
 simp only [AT.count]
 omega
theorem AT.inner_nonneg (t:AT):0≤t.inner:=by
 obtain ⟨ad,b,l⟩:=t
 rw [AT.inner_mk]
 omega
theorem AT.countAll_inner:∀ ts:List AT,(AT.countAll ts:Int)=ts.length+AT.innerAll ts
 | []=>by simp [AT.countAll,AT.innerAll]
 | t::r=>by
  have:=AT.count_inner t
  have:=AT.countAll_inner r
  simp only [AT.countAll,AT.innerAll,List.length_cons]
  omega
theorem AT.innerAll_nonneg:∀ ts:List AT,0≤AT.innerAll ts
 | []=>by simp [AT.innerAll]
 | t::r=>by
  have:=AT.inner_nonneg t
  have:=AT.innerAll_nonneg r
  simp only [AT.innerAll]
  omega
theorem AT.innerAll_at {a:List AT} {j:Nat} (h:j<a.length):AT.innerAll (a.drop j)=a[j].inner+AT.innerAll (a.drop (j+1)):=by
 rw [drop_at h,AT.innerAll]
set_option maxHeartbeats 1000000 in
theorem size_any (ts:List AT) (w:World) (v:Value) (B:Nat) (M:Addr→Option Int) (hsl:AT.Sl w ts v) (hm:MapF w B M) (hc:AT.countAll ts≤1048576) (hin:∀ t ∈ ts,(M t.ad).getD 0=t.inner) :
  Calls Tryd.prog 118 #[v,.map (some B)] w fun r w'=>r = .returned (.int .i64 (AT.countAll ts))∧w'=w:=by
 obtain ⟨x,c,rfl,hrow⟩:=hsl
 have HR:Hid (ts=[]∨∃ g,x=some ⟨g,0,none⟩∧AT.Row w ts g 0):=hrow
 have HM:Hid (_∧_):=⟨hm,hin⟩
 have hci:=AT.countAll_inner ts
 have hi0:=AT.innerAll_nonneg ts
 clear hrow hm hin
 go_enter Tryd.func118,Tryd.ntmps118
 go_wp2_with fail
 go_loop [5,6,11] (fun n _ i=>∃ (j:Nat) (d:Int),j≤ts.length∧i = .int .i64 j∧n = .int .i64 d∧0≤d∧d+AT.innerAll (ts.drop j)=AT.countAll ts) (fun _ _ i=>ts.length - (intOf i).toNat)
 case atStart=>exact ⟨0,ts.length,Nat.zero_le _,rfl,rfl,by omega,by simp;omega⟩
 case round =>
  obtain ⟨j,d,hj,rfl,rfl,hd,hdd⟩:=hrel
  by_cases hlt:j<ts.length
  ·rcases HR.out with h | ⟨g,hx,hrow⟩
   ·subst h;simp at hlt
   subst hx
   have hget:=AT.Row.get ts hrow j ts[j] (by simp [hlt])
   have h1:=AT.innerAll_at hlt
   have h2:=AT.innerAll_nonneg (ts.drop (j+1))
   have h3:=AT.inner_nonneg ts[j]
   have hlk:=run_lookup_plain HM.out.1 (AT.In.parts hget.2).1
   rw [hget.1,← hget.1,HM.out.2 ts[j] (by simp),hget.1] at hlk
   rw [show (0+j*14)=j*14 by omega] at hlk
   rw [h1] at hdd
   clear h1 hget hrow
   generalize ts[j].inner=y at *
   have HD:Hid (d+(y+AT.innerAll (ts.drop (j+1)))=AT.countAll ts):=hdd
   have hdy:d+y≤1048576:=by omega
   clear hdd
   go_wp2_with (go_at_call 117;refine (plus_any _ _ _ (by omega) (by omega) (by omega)).mono ?_;rintro e w' ⟨rfl,rfl⟩)
   go_round
   case rel=>have:=HD.out;exact ⟨j+1,d+y,by omega,by go_num,rfl,by omega,by omega⟩
   case measure=>simp [intOf];omega
  ·go_wp2_with fail
   go_ret
   rw [List.drop_of_length_le (by omega),AT.innerAll] at hdd
   exact ⟨ret_int (by omega),rfl⟩
end Go.Proofs.YtnkgbkkakokciacDoor.B
namespace Go.Proofs.YtnkgbkkakokciacDoor.B
open Go.ChangeShapes Go.WideShapes Go.ChangeAt Go.RowKit
theorem info48:(Tryd.prog.info? 188).map (fun i=>(i.zero,i.size,i.bytes))=some (some (.pointer none),1,8):=by kernel_rfl
theorem MapF.carry {w w':World} {B:Nat} {M:Addr→Option Int} (h:MapF w B M) (hB:w'.heap[B]?=w.heap[B]?) (hr:∀ g,rowBlk w g→rowBlk w' g):MapF w' B M:=by
 obtain ⟨L,⟨⟨es,clock,hh,hes⟩,hb⟩,hM⟩:=h
 exact ⟨L,⟨⟨es,clock,hB.trans hh,hes⟩,fun x hx=>hr _ (hb x hx)⟩,hM⟩
theorem MapF.lt {w:World} {B:Nat} {M:Addr→Option Int} (h:MapF w B M):B<w.heap.size:=by
 obtain ⟨L,⟨⟨es,clock,hh,hes⟩,hb⟩,hM⟩:=h
 exact (Array.getElem?_eq_some_iff.1 hh).1
theorem MapF.below {w w':World} {B:Nat} {M:Addr→Option Int} (h:MapF w B M) (hb:Below w.heap.size w w'):MapF w' B M :=
 h.carry (hb.block _ h.lt) fun _ hg=>hg.below hb
theorem MapF.grown {w w':World} {B n:Nat} {M:Addr→Option Int} {v:Value} {xs:List Value} (h:MapF w B M) (ho:w.ownsRow (B+1) 188 1 v n xs) (hg:w.grownBy w' v.ownBlock):MapF w' B M:=by
 refine h.carry (hg.block B h.lt fun e=>?_) fun g hr=>?_
 ·have:=(ho.lt B e.symm).1;omega
 ·obtain ⟨cur,hc⟩:=hr
  refine ⟨cur,(hg.block g (Array.getElem?_eq_some_iff.1 hc).1 fun e=>?_).trans hc⟩
  rcases ho.2 with ⟨rfl,_⟩ | ⟨k,cap,cur',rfl,_,hh,_⟩
  ·simp [Value.ownBlock] at e
  ·simp [Value.ownBlock] at e
   subst e
   rw [hc] at hh
   simp at hh
theorem below_drewN' {w:World} {n:Nat}:Below w.heap.size w (w.drewN n):=⟨rfl,rfl,rfl,Nat.le_refl _,fun _ _=>rfl⟩
def ptrs (ts:List AT):List Value:=ts.map fun t=>.pointer (some t.ad)
theorem kids_take {ts:List AT} {j:Nat} (h:j<ts.length):AT.kids (ts.take (j+1))=AT.kids (ts.take j)++(if ts[j].full then [ts[j]] else []):=by
 rw [List.take_succ_eq_append_getElem h]
 unfold AT.kids
 rw [List.filter_append]
 simp [List.filter_cons]
theorem kids_le (ts:List AT) (j:Nat):(AT.kids (ts.take j)).length≤j:=by
 unfold AT.kids
 have:=List.length_filter_le AT.full (ts.take j)
 have:=List.length_take_le j ts
 omega
theorem length_le_countAll:∀ ts:List AT,ts.length≤AT.countAll ts
 | []=>by simp
 | ⟨ad,b,l⟩::r=>by
  have:=length_le_countAll r
  simp only [AT.countAll,AT.count,List.length_cons]
  omega
theorem count_le_countAll:∀ (ts:List AT) (j:Nat) (t:AT),ts[j]?=some t→t.count≤AT.countAll ts
 | [],_,_,h=>by simp at h
 | e::r,0,x,h=>by simp at h;subst h;simp only [AT.countAll];omega
 | e::r,j+1,x,h=>by have:=count_le_countAll r j x (by simpa using h);simp only [AT.countAll];omega
theorem parts_le_count (t:AT):t.b.length+t.l.length+1≤t.count∧AT.countAll t.b+AT.countAll t.l+1≤t.count:=by
 obtain ⟨ad,b,l⟩:=t
 have:=length_le_countAll b
 have:=length_le_countAll l
 rw [AT.b_mk,AT.l_mk]
 simp only [AT.count]
 omega
set_option maxHeartbeats 2000000 in
theorem appendUnmet_any (ts:List AT) (w0 w:World) (v lv:Value) (n:Nat) (xs:List Value) (M:Addr→Option Int) (hB:Below w0.heap.size w0 w) (hsl:AT.Sl w0 ts lv) (hm:MapF w w0.heap.size M)
  (hown:w.ownsRow (w0.heap.size+1) 188 1 v n xs) (hun:∀ t ∈ ts,M t.ad=none) (hn:n+ts.length≤4194304) (hc:AT.countAll ts≤1048576) :
  Calls Tryd.prog 116 #[v,lv,.map (some w0.heap.size)] w fun r w'=>∃ v',r = .returned v'∧w'.ownsRow (w0.heap.size+1) 188 1 v' (n+(AT.kids ts).length) (xs++ptrs (AT.kids ts))∧MapF w' w0.heap.size M∧Below w0.heap.size w0 w':=by
 obtain ⟨x,c,rfl,hrow⟩:=hsl
 have HR:Hid (ts=[]∨∃ g,x=some ⟨g,0,none⟩∧AT.Row w0 ts g 0):=hrow
 have HM:Hid (_∧_∧_):=⟨hm,hown,hB⟩
 have HU:Hid (∀ t ∈ ts,M t.ad=none):=hun
 clear hrow hm hown hB hun
 obtain ⟨i0,hi,hz0,hz1,hz2⟩:=info_parts info48
 go_enter Tryd.func116,Tryd.ntmps116
 go_wp2_with fail
 go_loopw [0,7,8,9,10,13] (fun u _ _ _ _ i wr=>∃ (j:Nat),j≤ts.length∧i = .int .i64 j∧wr.ownsRow (w0.heap.size+1) 188 1 u (n+(AT.kids (ts.take j)).length) (xs++ptrs (AT.kids (ts.take j)))∧MapF wr w0.heap.size M∧Below w0.heap.size w0 wr) (fun _ _ _ _ _ i _=>ts.length - (intOf i).toNat)
 case atStart=>exact ⟨0,Nat.zero_le _,rfl,by simpa [AT.kids,ptrs] using HM.out.2.1,HM.out.1,HM.out.2.2⟩
 case round =>
  obtain ⟨j,hj,rfl,hown,hm,hb⟩:=hrel
  by_cases hlt:j<ts.length
  ·rcases HR.out with h | ⟨g,hx,hrow⟩
   ·subst h;simp at hlt
   subst hx
   have hget:=AT.Row.get ts (AT.Row.below hb _ hrow) j ts[j] (by simp [hlt])
   have hkt:=kids_take hlt
   have hkl:=kids_le ts j
   have hpl:=(parts_le_count ts[j]).1
   have hpc:=count_le_countAll ts j ts[j] (by simp [hlt])
   have hpl:ts[j].b.length+ts[j].l.length≤1048576:=by omega
   clear hpc
   have hp:=AT.In.parts hget.2
   have hlk:=run_lookup_ok hm hp.1
   rw [HU.out ts[j] (by simp)] at hlk
   rw [hget.1] at hlk hp
   rw [show (0+j*14)=j*14 by omega] at hlk hp
   obtain ⟨hblk,⟨x1,c1,e1,-⟩,⟨x2,c2,e2,-⟩⟩:=hp
   simp only [Option.getD_none,Option.isSome_none] at hlk
   have had:Hid (ts[j].ad=⟨g,j*14,none⟩):=by have:=hget.1;rwa [show (0+j*14)=j*14 by omega] at this
   dsimp only at e1 e2
   have HK:Hid (_∧_∧_∧_):=⟨hown,hm,hb,hkt⟩
   clear hown hm hb hkt hget hrow hblk
   by_cases hf:ts[j].full=true
   ·have hf':0<ts[j].b.length+ts[j].l.length:=of_decide_eq_true hf
    generalize ts[j].b.length=lb at *
    generalize ts[j].l.length=ll at *
    have hfi:(0:Int)<(lb:Int)+(ll:Int):=by omega
    have hwl:IntKind.i64.wrap ((lb:Int)+(ll:Int))=(lb:Int)+(ll:Int):=wrap_in _ (by omega)
    go_wp2_with fail
    go_quiet (fail)
    go_wp2_with (first
     | (at_builtin;refine append_mine _ rfl (.tmp 41) (.tmp 43) 186 rfl (w0.heap.size+1) 188 i0 _ 1 8 Tryd.underlying186 hi hz0 hz1 hz2 rfl (by decide) _ (n+(AT.kids (ts.take j)).length) (xs++ptrs (AT.kids (ts.take j))) rfl ?qo ⟨wr.heap.size,0,none⟩ 1 1 [.pointer (some ⟨g,j*14,none⟩)] rfl rfl ?qc ?q1 (by decide) ?q3 ?q4 ?q5 ?_;rotate_left 6;intro v3 w3 hown3 hg3 hv3;have HI3:Hid (_∧_∧_):=⟨hown3,hg3,hv3⟩;clear hown3 hg3 hv3))
    case qo=>exact ownsRow_below HK.out.1 (below_seq below_drewN' ((Below.refl _ _).alloc (Nat.le_refl _) _))
    case qc=>exact fresh_cells (wr.drewN nq) _ 188
    case q1=>intro u hu;simp at hu;subst hu;rfl
    case q3=>unfold maxLen;omega
    case q4=>omega
    case q5=>have:=HK.out.2.1.lt;simp;omega
    have hbw:Below wr.heap.size wr ((wr.drewN nq).alloc (.cells #[.pointer (some ⟨g,j*14,none⟩)] 188)):=below_seq below_drewN' ((Below.refl _ _).alloc (Nat.le_refl _) _)
    have ho2:=ownsRow_below HK.out.1 hbw
    go_roundw
    case rel =>
     refine ⟨j+1,by omega,by go_num,?_,?_,?_⟩
     ·rw [HK.out.2.2.2,if_pos hf,List.length_append]
      have h3:=HI3.out.1
      unfold ptrs at h3 ⊢
      rw [List.map_append,← List.append_assoc,← Nat.add_assoc]
      simp only [List.map_cons,List.map_nil,had.out]
      exact h3
     ·exact (HK.out.2.1.below hbw).grown ho2 HI3.out.2.1
     ·have h1:=(below_seq HK.out.2.2.1 hbw)
      exact h1.grown HI3.out.2.1 h1.size fun k hk=>by have:=(ho2.lt k hk).1;omega
    case measure=>simp [intOf];omega
   ·have hf':ts[j].b.length+ts[j].l.length=0:=by have:=of_decide_eq_false (by simpa using hf:ts[j].full=false);omega
    generalize ts[j].b.length=lb at *
    generalize ts[j].l.length=ll at *
    have hlb:lb=0:=by omega
    have hll:ll=0:=by omega
    subst hlb hll
    go_wp2_with fail
    go_quiet (fail)
    go_wp2_with fail
    go_roundw
    case rel =>
     refine ⟨j+1,by omega,by go_num,?_,?_,?_⟩
     ·rw [HK.out.2.2.2,if_neg hf,List.append_nil]
      exact ownsRow_below HK.out.1 below_drewN'
     ·exact HK.out.2.1.below below_drewN'
     ·exact HK.out.2.2.1.trans (below_drewN'.mono HK.out.2.2.1.size)
    case measure=>simp [intOf];omega
  ·go_wp2_with fail
   go_ret
   rw [List.take_of_length_le (by omega)] at hown
   exact ⟨_,rfl,hown,hm,hb⟩
end Go.Proofs.YtnkgbkkakokciacDoor.B
namespace Go.Proofs.YtnkgbkkakokciacDoor.B
open Go.ChangeShapes Go.WideShapes Go.ChangeAt Go.RowKit
theorem Reach.length_le (F:(Addr→Option Int)→Prop):∀ (n:Nat) (st:List AT) (M:Addr→Option Int),Reach F n st M→st.length≤n
 | _,[],_,_=>by simp
 | 0,_::_,_,h=>by unfold Reach at h;exact h.elim
 | n+1,t::st,M,h=>by
  unfold Reach at h
  rcases h with ⟨h1,h2,h3⟩ | ⟨h1,h2,h3⟩
  ·have:=Reach.length_le F n _ _ h3;simp at this ⊢;omega
  ·have:=Reach.length_le F n _ _ h3;simp at this ⊢;omega
mutual
theorem AT.cost_eq:∀ t:AT,t.cost=2*t.count
 | .mk _ b l=>by have:=AT.costAll_eq b;have:=AT.costAll_eq l;simp only [AT.cost,AT.count];omega
theorem AT.costAll_eq:∀ ts:List AT,AT.costAll ts=2*AT.countAll ts
 | []=>by simp [AT.costAll,AT.countAll]
 | t::r=>by have:=AT.cost_eq t;have:=AT.costAll_eq r;simp only [AT.costAll,AT.countAll];omega
end
def Good (w:World) (t:AT):Prop:=t.In w∧t.count≤1048576∧t.ad.spot=none
theorem Sl_good {w:World} {ts:List AT} {v:Value} (h:AT.Sl w ts v) (hc:AT.countAll ts≤1048576):∀ t ∈ ts,Good w t:=by
 intro t ht
 obtain ⟨j,hj,rfl⟩:=List.getElem_of_mem ht
 obtain ⟨x,c,-,h⟩:=h
 rcases h with h | ⟨g,-,h⟩
 ·subst h;simp at hj
 ·have h1:=AT.Row.get ts h j ts[j] (by simp [hj])
  have h2:=count_le_countAll ts j ts[j] (by simp [hj])
  exact ⟨h1.2,by omega,by rw [h1.1]⟩
theorem MapF_made (w:World):MapF (w.alloc (.map #[] 0)) w.heap.size (fun _=>none) :=
 ⟨[],⟨⟨#[],0,heap_alloc_new w _,rfl⟩,fun x hx=>by simp at hx⟩,fun _=>rfl⟩
theorem ownsRow_but {w w':World} {B base n size:Nat} {e:TypeId} {v:Value} {xs:List Value} (h:w.ownsRow base e size v n xs) (hB:B<base) (hb:ButAt B w w'):w'.ownsRow base e size v n xs:=by
 refine h.kept (row:=some B) ⟨hb.os,hb.tape,hb.output,Nat.le_of_eq hb.size.symm,fun k hk hne=>hb.block k (fun e=>hne (by rw [e]))⟩ (.inr fun e=>?_)
 have:=(h.lt B e).1
 omega
theorem kids_le' (ts:List AT):(AT.kids ts).length≤ts.length:=List.length_filter_le _ _
set_option maxHeartbeats 4000000 in
theorem Count_any (ts:List AT) (w:World) (v:Value) (hsl:AT.Sl w ts v) (hnd:(AT.addrsAll ts).Nodup) (hc:AT.countAll ts≤1048576) :
  Calls Tryd.prog 93 #[v] w fun r w'=>r = .returned (.int .i64 (AT.countAll ts))∧Below w.heap.size w w':=by
 have hRe:Reach (fun M=>∀ t ∈ ts,(M t.ad).getD 0=t.inner) (0+AT.costAll ts) ((AT.kids ts).reverse++[]) (fun _=>none) :=
  Reach.all _ ts hnd 0 [] _ (fun _ _=>rfl) fun M' h1 _=>by unfold Reach;exact h1
 rw [List.append_nil,Nat.zero_add] at hRe
 have hce:=AT.costAll_eq ts
 have hgood:=Sl_good hsl hc
 have hll:=length_le_countAll ts
 have HH:Hid (_∧_∧_):=⟨hsl,hRe,hgood⟩
 clear hsl hRe hgood hnd
 have hmm:=@run_makeMap Tryd.prog
 have hB1:Below w.heap.size w (w.alloc (.map #[] 0)):=(Below.refl _ _).alloc (Nat.le_refl _) _
 have HB1:Hid _:=hB1
 clear hB1
 go_enter Tryd.func93,Tryd.ntmps93
 go_wp2_with (first
  | (go_at_call 116;refine (appendUnmet_any ts w _ _ _ 0 [] (fun _=>none) HB1.out HH.out.1 (MapF_made w) (World.ownsRow_nil _ _ _ _) (fun _ _=>rfl) (by omega) hc).mono ?_;rintro e w1 ⟨v1,rfl,ho1,hm1,hb1⟩;have H1:Hid (_∧_∧_):=⟨ho1,hm1,hb1⟩;clear ho1 hm1 hb1))
 go_loopg [4,5,6,7] (AT.costAll ts) (fun k u _ _ _ wr=>∃ (st:List AT) (M:Addr→Option Int),Reach (fun M=>∀ t ∈ ts,(M t.ad).getD 0=t.inner) k st M∧k≤AT.costAll ts∧wr.ownsRow (w.heap.size+1) 188 1 u st.length (ptrs st.reverse)∧MapF wr w.heap.size M∧(∀ t ∈ st,Good w t)∧Below w.heap.size w wr)
 case atStart =>
  refine ⟨(AT.kids ts).reverse,fun _=>none,HH.out.2.1,Nat.le_refl _,?_,H1.out.2.1,fun t ht=>HH.out.2.2 t (AT.kids_mem (by simpa using ht)),H1.out.2.2⟩
  simpa using H1.out.1
 case round =>
  obtain ⟨st,M,hre,hk,hown,hm,hgood,hb⟩:=hrel
  cases st with
  | nil =>
   have hF:∀ t ∈ ts,(M t.ad).getD 0=t.inner:=by unfold Reach at hre;exact hre
   have hu:∃ ad c,u4 = .slice ad 0 c:=by
    rcases hown.2 with ⟨rfl,_⟩ | ⟨g,cap,cur,rfl,_⟩
    ·exact ⟨_,_,rfl⟩
    ·exact ⟨_,_,rfl⟩
   obtain ⟨ad,c,rfl⟩:=hu
   have HE:Hid (_∧_∧_):=⟨hF,hm,hb⟩
   clear hF hm hb hown hgood hre
   go_wp2_with (first
    | (go_at_call 118;refine (size_any ts _ _ _ M (HH.out.1.below HE.out.2.2) HE.out.2.1 hc HE.out.1).mono ?_;rintro e w' ⟨rfl,rfl⟩))
   go_ret
   exact ⟨rfl,HE.out.2.2⟩
  | cons t st =>
   have hlen:=Reach.length_le _ _ _ _ hre
   obtain ⟨g,cap,rfl,hgB,hcells⟩:=getCell hown (by simp)
   have htop:=hcells st.length (.pointer (some t.ad)) (by simp [ptrs])
   rw [show (0+st.length)=st.length by omega] at htop
   obtain ⟨hin,hct,hsp⟩:=hgood t List.mem_cons_self
   have hp:=AT.In.parts hin
   have hgr:∀ t ∈ st,Good w t:=fun t ht=>hgood t (List.mem_cons_of_mem _ ht)
   have hbl:=parts_le_count t
   obtain ⟨⟨tg,tof,tsp⟩,hta⟩:∃ a,t.ad=a:=⟨_,rfl⟩
   have hsp':tsp=none:=by rw [hta] at hsp;exact hsp
   subst hsp'
   rw [hta] at htop hp
   obtain ⟨hblk,⟨x1,c1,e1,s1⟩,⟨x2,c2,e2,s2⟩⟩:=hp
   dsimp only at e1 e2 hblk
   have htl:tg<w.heap.size:=World.block_lt_of_cell? _ _ e1
   have hblk:=hblk.below hb
   have hlk:=run_lookup_ok (a:=⟨tg,tof,none⟩) hm hblk
   simp only [List.length_cons] at hown hcells hlen
   have h21:st.length+1≤2097152:=by omega
   have hcap:st.length+1≤cap:=by
    rcases hown.2 with ⟨h,_⟩ | ⟨g',cap',cur,h,_,_,h',_⟩
    ·cases h
    ·cases h;exact h'
   cases gk with
   | zero=>omega
   | succ n =>
    unfold Reach at hre
    rw [hta] at hre
    rcases hre with ⟨h1,h2,h3⟩ | ⟨⟨cc,h1⟩,h2,h3⟩
    ·rw [h1] at hlk
     simp only [Option.getD_none,Option.isSome_none] at hlk
     obtain ⟨wu,hup,hm1,hbut⟩:=run_mapUpdate_ptr (a:=⟨tg,tof,none⟩) (z:=9223372036854775807) hm hblk
     have hbu:Below w.heap.size w wu:=hb.trans hbut.below
     have d1:=below_cell hbu e1
     have hku:=ownsRow_but hown (by omega) hbut
     have HK:Hid (_∧_∧_∧_∧_∧_∧_):=⟨hku,hbu,hgr,h2,h3,hm1,hgood⟩
     have HS:Hid (_∧_∧_∧_):=⟨s1,s2,e1,e2⟩
     clear hown hb hgr h2 h3 hm hm1 hbut hgood hcells hbu hku s1 s2 e1 e2 hblk hin h1
     have hkb:=kids_le' t.b
     have hkl:=kids_le' t.l
     go_wp2_with (first
      | (go_at_call_of 116 x1;refine (appendUnmet_any t.b w _ _ _ (st.length+1) (ptrs (t::st).reverse) (upd M ⟨tg,tof,none⟩ 9223372036854775807) HK.out.2.1 HS.out.1 HK.out.2.2.2.2.2.1 HK.out.1 (fun k hk=>HK.out.2.2.2.1 k (List.mem_append_left _ hk)) (by omega) (by omega)).mono ?_;rintro e w2 ⟨v2,rfl,ho2,hm2,hb2⟩;have d2:=below_cell hb2 HS.out.2.2.2;have H2:Hid (_∧_∧_):=⟨ho2,hm2,hb2⟩;clear ho2 hm2 hb2)
      | (go_at_call_of 116 x2;refine (appendUnmet_any t.l w _ _ _ (st.length+1+(AT.kids t.b).length) (ptrs (t::st).reverse++ptrs (AT.kids t.b)) (upd M ⟨tg,tof,none⟩ 9223372036854775807) H2.out.2.2 HS.out.2.1 H2.out.2.1 H2.out.1 (fun k hk=>HK.out.2.2.2.1 k (List.mem_append_right _ hk)) (by omega) (by omega)).mono ?_;rintro e w3 ⟨v3,rfl,ho3,hm3,hb3⟩;have H3:Hid (_∧_∧_):=⟨ho3,hm3,hb3⟩;clear ho3 hm3 hb3))
     go_roundg n
     case measure=>omega
     case rel =>
      refine ⟨(AT.kids t.l).reverse++((AT.kids t.b).reverse++t::st),upd M ⟨tg,tof,none⟩ 9223372036854775807,HK.out.2.2.2.2.1,by omega,?_,H3.out.2.1,?_,H3.out.2.2⟩
      ·have h:=H3.out.1
       unfold ptrs at h ⊢
       have e1:((AT.kids t.l).reverse++((AT.kids t.b).reverse++t::st)).length=st.length+1+(AT.kids t.b).length+(AT.kids t.l).length:=by simp;omega
       rw [e1]
       simpa [List.map_append] using h
      ·intro k hk
       have g1:=Sl_good HS.out.1 (by omega)
       have g2:=Sl_good HS.out.2.1 (by omega)
       rcases List.mem_append.1 hk with hk | hk
       ·exact g2 k (AT.kids_mem (by simpa using hk))
       ·rcases List.mem_append.1 hk with hk | hk
        ·exact g1 k (AT.kids_mem (by simpa using hk))
        ·exact HK.out.2.2.2.2.2.2 k hk
    ·rw [h1] at hlk
     simp only [Option.getD_some,Option.isSome_some] at hlk
     have hmd:MapF wr.drew w.heap.size M:=hm.below (Below.refl _ _).drew
     have hbd:Below w.heap.size w wr.drew:=hb.drew
     obtain ⟨wu,hup,hm1,hbut⟩:=run_mapUpdate_ptr (a:=⟨tg,tof,none⟩) (z:=(AT.countAll t.b:Int)+(AT.countAll t.l:Int)) hmd (hblk.below (Below.refl _ _).drew)
     have hbu:Below w.heap.size w wu:=hbd.trans hbut.below
     have d1:=below_cell hb e1
     have d2:=below_cell hb e2
     have u1:=below_cell hbu e1
     have u2:=below_cell hbu e2
     have hku:=ownsRow_but (ownsRow_below hown (Below.refl _ _).drew) (by omega) hbut
     have HK:Hid (_∧_∧_∧_∧_∧_):=⟨hku,hbu,hgr,h2,h3,hm1⟩
     have HS:Hid (_∧_∧_∧_):=⟨s1,s2,hmd,hbd⟩
     clear hown hb hgr h2 h3 hm hm1 hbut hgood hcells hbu hku s1 s2 e1 e2 hblk hin h1 hmd hbd
     go_wp2_with fail
     go_region_held3 (fun w'=>w'.cell? ⟨tg,tof+12,none⟩=some (.slice x1 t.b.length c1)∧w'.cell? ⟨tg,tof+13,none⟩=some (.slice x2 t.l.length c2))
      (first | exact ⟨d1,d2⟩ | exact ⟨u1,u2⟩)
      (first
       | (go_at_call_of 118 x1;refine (size_any t.b _ _ _ M (HS.out.1.below HS.out.2.2.2) HS.out.2.2.1 (by omega) (fun k hk=>HK.out.2.2.2.1 k (List.mem_append_left _ hk))).mono ?_;rintro e w' ⟨rfl,rfl⟩)
       | (go_at_call_of 118 x2;refine (size_any t.l _ _ _ M (HS.out.2.1.below HS.out.2.2.2) HS.out.2.2.1 (by omega) (fun k hk=>HK.out.2.2.2.1 k (List.mem_append_right _ hk))).mono ?_;rintro e w' ⟨rfl,rfl⟩)
       | (go_at_call 117;refine (plus_any _ _ _ (by omega) (by omega) (by omega)).mono ?_;rintro e w' ⟨rfl,rfl⟩))
     all_goals
      go_wp2_with fail
      go_roundg n
      case measure=>omega
      case rel =>
       refine ⟨st,_,HK.out.2.2.2.2.1,by omega,?_,HK.out.2.2.2.2.2,HK.out.2.2.1,HK.out.2.1⟩
       have h:=HK.out.1
       rw [List.reverse_cons,ptrs,List.map_append] at h
       exact ownsRow_pop (by simp [ptrs]) h
set_option maxRecDepth 20000 in
set_option maxHeartbeats 400000 in
theorem choice_any (w0:World) (bb N:Nat) (hE:EndsIn w0) (hK:CompsIn w0) (hL:ListC w0 bb N) (ca cb:Ex) (y l:List St) (k n ek en ck ak an bk bn:Int) (ead aad bad yad lad:Option Addr) (em ec am ac bm bc yc lc:Nat) (i2:ca.In w0 (.agg #[.int .i64 ak,.int .i64 an,.slice aad am ac])) (i3:cb.In w0 (.agg #[.int .i64 bk,.int .i64 bn,.slice bad bm bc])) (i4:St.Sl w0 y (.slice yad y.length yc)) (i5:St.Sl w0 l (.slice lad l.length lc)) (hck:1≤ck∧ck≤4) (hla:ca.Lay) (hlb:cb.Lay) (hly:St.LayAll y) (hll:St.LayAll l) (hN:St.bulkAll y+St.bulkAll l≤N) (w:World) (img:List Io) (loops:Int) (iv:Value) (hw:BW w0 w bb img loops iv) (hlen:img.length+8*(1+ca.nodes+cb.nodes+St.bulkAll y+St.bulkAll l)≤600000) (hlo:0≤loops∧loops+(1+ca.nodes+cb.nodes+St.bulkAll y+St.bulkAll l:Nat)≤1000000) :
  Calls Tryd.prog 123 #[.pointer (some ⟨bb,0,none⟩),.agg #[.int .i64 k,.int .i64 n,.int .i64 ek,.int .i64 en,.slice ead em ec,.int .i64 ck,.int .i64 ak,.int .i64 an,.slice aad am ac,.int .i64 bk,.int .i64 bn,.slice bad bm bc,.slice yad y.length yc,.slice lad l.length lc]] w fun r w'=>r = .returned (.tuple #[])∧∃ iv',BW w0 w' bb (img++mv img.length (if l.length=0 then ifP (cdP ck ca cb) (St.pcAll y loops) else elP (cdP ck ca cb) (St.pcAll y loops) (St.pcAll l loops))) loops iv'∧BG bb w w' iv iv':=by
 have hcl:=cdP_len ck ca cb
 have hyl:=St.pcAll_len y loops
 have hll':=St.pcAll_len l loops
 have hcm:=cdP_mv img.length ck ca cb hla hlb
 have p6:=Ex.nodes_pos ca
 have p7:=Ex.nodes_pos cb
 have hW1:=hw.below (below_new w (.cells #[.int .i64 k,.int .i64 n,.int .i64 ek,.int .i64 en,.slice ead em ec,.int .i64 ck,.int .i64 ak,.int .i64 an,.slice aad am ac,.int .i64 bk,.int .i64 bn,.slice bad bm bc,.slice yad y.length yc,.slice lad l.length lc] 123))
 have hK1:=Kp.new hw (.cells #[.int .i64 k,.int .i64 n,.int .i64 ek,.int .i64 en,.slice ead em ec,.int .i64 ck,.int .i64 ak,.int .i64 an,.slice aad am ac,.int .i64 bk,.int .i64 bn,.slice bad bm bc,.slice yad y.length yc,.slice lad l.length lc] 123)
 have HC1:=bcond_any w0 _ bb img loops iv ck ca cb ak an bk bn aad bad am ac bm bc hE hK hck i2 i3 hla hlb (by omega) (by omega) hW1 (by omega)
 have HK1:Hid (Kp (w.alloc (.cells #[.int .i64 k,.int .i64 n,.int .i64 ek,.int .i64 en,.slice ead em ec,.int .i64 ck,.int .i64 ak,.int .i64 an,.slice aad am ac,.int .i64 bk,.int .i64 bn,.slice bad bm bc,.slice yad y.length yc,.slice lad l.length lc] 123)) bb iv w.heap.size (.cells #[.int .i64 k,.int .i64 n,.int .i64 ek,.int .i64 en,.slice ead em ec,.int .i64 ck,.int .i64 ak,.int .i64 an,.slice aad am ac,.int .i64 bk,.int .i64 bn,.slice bad bm bc,.slice yad y.length yc,.slice lad l.length lc] 123 (0,0))∧BG bb w (w.alloc (.cells #[.int .i64 k,.int .i64 n,.int .i64 ek,.int .i64 en,.slice ead em ec,.int .i64 ck,.int .i64 ak,.int .i64 an,.slice aad am ac,.int .i64 bk,.int .i64 bn,.slice bad bm bc,.slice yad y.length yc,.slice lad l.length lc] 123)) iv iv):=⟨hK1,BG.of_below (below_new _ _)⟩
 have HI:Hid (St.Sl w0 y (.slice yad y.length yc)∧St.Sl w0 l (.slice lad l.length lc)∧St.LayAll y∧St.LayAll l∧ListC w0 bb N∧mv img.length (cdP ck ca cb)=cdP ck ca cb):=⟨i4,i5,hly,hll,hL,hcm⟩
 have hlt:=hw.cells.2.2.2
 clear hw hW1 hK1 i2 i3 i4 i5 hly hll hL hcm hE hK
 generalize cdP ck ca cb=C at *
 have hcl3:C.length≤4*(ca.nodes+cb.nodes)+3:=hcl
 go_enter Tryd.func123,Tryd.ntmps123
 go_wp2_with (go_at_call 145;refine HC1.mono ?_;rintro r w2 ⟨q,p,iv2,rfl,hp2,hw2,hg2⟩;have hk2:=HK1.out.1.go hg2;obtain ⟨d1,e1,lk2⟩:=cells_of (l:=[_,_,_,_,_,_,_,_,_,_,_,_,_,_]) hk2.blk;have x2_12:=d1 12 _ rfl;have x2_13:=d1 13 _ rfl;clear d1 e1;have HC2:=HI.out.2.2.2.2.1 y w2 _ (img++C++[⟨12,0,0⟩]) loops iv2 (by omega) HI.out.1 HI.out.2.2.1 hw2 (by simp;omega) (by omega);have H2:Hid (LpAt w2 bb iv2 q p (img++C).length∧Kp w2 bb iv2 w.heap.size (.cells #[.int .i64 k,.int .i64 n,.int .i64 ek,.int .i64 en,.slice ead em ec,.int .i64 ck,.int .i64 ak,.int .i64 an,.slice aad am ac,.int .i64 bk,.int .i64 bn,.slice bad bm bc,.slice yad y.length yc,.slice lad l.length lc] 123 (0,0))∧BG bb w w2 iv iv2):=⟨hp2,hk2,HK1.out.2.trans hg2⟩;clear hp2 hw2 hg2 hk2 HC1)
 by_cases hl0:l.length=0
 ·have hl0i:((l.length:Int) == 0)=true:=by rw [beq_iff_eq];omega
  have hl0j:(l.length:Int)=0:=by omega
  go_wp2_with (go_at_call 60;refine HC2.mono ?_;rintro r w3 ⟨rfl,iv3,hw3,hg3⟩;have hk3:=H2.out.2.1.go hg3;obtain ⟨d1,e1,lk3⟩:=cells_of (l:=[_,_,_,_,_,_,_,_,_,_,_,_,_,_]) hk3.blk;have x3_13:=d1 13 _ rfl;clear d1 e1;have H3:Hid (BW w0 w3 bb (img++C++[⟨12,0,0⟩]++mv ((img++C++[(⟨12,0,0⟩:Io)]).length) (St.pcAll y loops)) loops iv3∧LpAt w3 bb iv3 q p (img++C).length∧Kp w3 bb iv3 w.heap.size (.cells #[.int .i64 k,.int .i64 n,.int .i64 ek,.int .i64 en,.slice ead em ec,.int .i64 ck,.int .i64 ak,.int .i64 an,.slice aad am ac,.int .i64 bk,.int .i64 bn,.slice bad bm bc,.slice yad y.length yc,.slice lad l.length lc] 123 (0,0))∧BG bb w w3 iv iv3):=⟨hw3,H2.out.1.go hg3,hk3,H2.out.2.2.trans hg3⟩;clear hw3 hg3 hk3 HC2)
  have HC3:=land_any w0 w3 bb _ loops iv3 q p _ H3.out.1 H3.out.2.1 (by simp only [List.length_append,List.length_cons,List.length_nil];omega)
  go_wp2_with (go_at_call 158;refine HC3.mono ?_;rintro r w4 ⟨rfl,hw4,hg4⟩;have H4:Hid (_∧BG bb w w4 iv iv3):=⟨hw4,H3.out.2.2.2.trans hg4⟩;clear hw4 hg4 HC3)
  refine bodyPost_ret (results_none rfl _ _ _) rfl ?_
  refine ⟨rfl,iv3,?_,H4.out.2⟩
  try rw [if_pos hl0]
  have hq:=H4.out.1
  have e:=if_img img C (St.pcAll y loops) HI.out.2.2.2.2.2
  unfold landI at e
  rw [e] at hq
  exact hq
 ·have hl0i:((l.length:Int) == 0)=false:=by rw [beq_eq_false_iff_ne];omega
  have hl0j:¬ (l.length:Int)=0:=by omega
  go_wp2_with (go_at_call 60;refine HC2.mono ?_;rintro r w3 ⟨rfl,iv3,hw3,hg3⟩;have hk3:=H2.out.2.1.go hg3;obtain ⟨d1,e1,lk3⟩:=cells_of (l:=[_,_,_,_,_,_,_,_,_,_,_,_,_,_]) hk3.blk;have x3_13:=d1 13 _ rfl;clear d1 e1;have H3:Hid (BW w0 w3 bb (img++C++[⟨12,0,0⟩]++mv ((img++C++[(⟨12,0,0⟩:Io)]).length) (St.pcAll y loops)) loops iv3∧LpAt w3 bb iv3 q p (img++C).length∧Kp w3 bb iv3 w.heap.size (.cells #[.int .i64 k,.int .i64 n,.int .i64 ek,.int .i64 en,.slice ead em ec,.int .i64 ck,.int .i64 ak,.int .i64 an,.slice aad am ac,.int .i64 bk,.int .i64 bn,.slice bad bm bc,.slice yad y.length yc,.slice lad l.length lc] 123 (0,0))∧BG bb w w3 iv iv3):=⟨hw3,H2.out.1.go hg3,hk3,H2.out.2.2.trans hg3⟩;clear hw3 hg3 hk3 HC2)
  obtain ⟨s2,hs2⟩:∃ s2:List Io,s2=img++C++[⟨12,0,0⟩]++mv ((img++C++[(⟨12,0,0⟩:Io)]).length) (St.pcAll y loops):=⟨_,rfl⟩
  have ls2:s2.length=img.length+C.length+1+(St.pcAll y loops).length:=by rw [hs2];simp [mv_len];omega
  rw [← hs2] at H3
  have HC3:=leap_any w0 w3 bb s2 loops iv3 11 H3.out.1 (by omega)
  go_wp2_with (go_at_call 146;refine HC3.mono ?_;rintro r w4 ⟨q2,p2,iv4,rfl,hp4,hw4,hg4⟩;have H4:Hid (LpAt w4 bb iv4 q2 p2 s2.length∧LpAt w4 bb iv4 q p (img++C).length∧Kp w4 bb iv4 w.heap.size (.cells #[.int .i64 k,.int .i64 n,.int .i64 ek,.int .i64 en,.slice ead em ec,.int .i64 ck,.int .i64 ak,.int .i64 an,.slice aad am ac,.int .i64 bk,.int .i64 bn,.slice bad bm bc,.slice yad y.length yc,.slice lad l.length lc] 123 (0,0))∧BG bb w w4 iv iv4):=⟨hp4,H3.out.2.1.go hg4,H3.out.2.2.1.go hg4,H3.out.2.2.2.trans hg4⟩;have HC4:=land_any w0 w4 bb (s2++[⟨11,0,0⟩]) loops iv4 q p _ hw4 H4.out.2.1 (by simp only [List.length_append,ls2,List.length_cons,List.length_nil];omega);clear hp4 hw4 hg4 HC3)
  obtain ⟨s4,hs4⟩:∃ s4:List Io,s4=landI (s2++[⟨11,0,0⟩]) (img++C).length:=⟨_,rfl⟩
  have ls4:s4.length=s2.length+1:=by rw [hs4];simp [landI]
  go_wp2_with (go_at_call 158;refine HC4.mono ?_;rintro r w5 ⟨rfl,hw5,hg5⟩;have hw5':BW w0 w5 bb s4 loops iv4:=(by rw [hs4];exact hw5);have hk5:=H4.out.2.2.1.go hg5;obtain ⟨d1,e1,lk5⟩:=cells_of (l:=[_,_,_,_,_,_,_,_,_,_,_,_,_,_]) hk5.blk;have x5_13:=d1 13 _ rfl;clear d1 e1;have HC5:=HI.out.2.2.2.2.1 l w5 _ s4 loops iv4 (by omega) HI.out.2.1 HI.out.2.2.2.1 hw5' (by omega) (by omega);have H5:Hid (LpAt w5 bb iv4 q2 p2 s2.length∧BG bb w w5 iv iv4):=⟨H4.out.1.go hg5,H4.out.2.2.2.trans hg5⟩;clear hw5 hw5' hg5 hk5 HC4)
  go_wp2_with (go_at_call 60;refine HC5.mono ?_;rintro r w6 ⟨rfl,iv6,hw6,hg6⟩;have HC6:=land_any w0 w6 bb _ loops iv6 q2 p2 _ hw6 (H5.out.1.go hg6) (by rw [List.length_append,ls4];omega);have H6:Hid (BG bb w w6 iv iv6):=H5.out.2.trans hg6;clear hw6 hg6 HC5)
  go_wp2_with (go_at_call 158;refine HC6.mono ?_;rintro r w7 ⟨rfl,hw7,hg7⟩;have H7:Hid (_∧BG bb w w7 iv iv6):=⟨hw7,H6.out.trans hg7⟩;clear hw7 hg7 HC6)
  go_end0
  refine ⟨rfl,iv6,?_,H7.out.2⟩
  try rw [if_neg hl0]
  have hq:=H7.out.1
  have e:=el_img img C (St.pcAll y loops) (St.pcAll l loops) HI.out.2.2.2.2.2 s2 s4 hs2 hs4
  unfold landI at e
  rw [e] at hq
  exact hq
set_option maxRecDepth 20000 in
set_option maxHeartbeats 400000 in
theorem while_any (w0:World) (bb N:Nat) (hE:EndsIn w0) (hK:CompsIn w0) (hL:ListC w0 bb N) (ca cb:Ex) (y l:List St) (k n ek en ck ak an bk bn:Int) (ead aad bad yad lad:Option Addr) (em ec am ac bm bc yc lc:Nat) (i2:ca.In w0 (.agg #[.int .i64 ak,.int .i64 an,.slice aad am ac])) (i3:cb.In w0 (.agg #[.int .i64 bk,.int .i64 bn,.slice bad bm bc])) (i4:St.Sl w0 y (.slice yad y.length yc)) (hck:1≤ck∧ck≤4) (hla:ca.Lay) (hlb:cb.Lay) (hly:St.LayAll y) (hN:St.bulkAll y≤N) (w:World) (img:List Io) (loops i:Int) (iv:Value) (hw:BW w0 w bb img loops iv) (hlen:img.length+8*(ca.nodes+cb.nodes+St.bulkAll y)≤600000) (hlo:0≤loops∧loops+(St.bulkAll y:Nat)≤1000000) :
  Calls Tryd.prog 127 #[.pointer (some ⟨bb,0,none⟩),.agg #[.int .i64 k,.int .i64 n,.int .i64 ek,.int .i64 en,.slice ead em ec,.int .i64 ck,.int .i64 ak,.int .i64 an,.slice aad am ac,.int .i64 bk,.int .i64 bn,.slice bad bm bc,.slice yad y.length yc,.slice lad l.length lc],.int .i64 i] w fun r w'=>r = .returned (.tuple #[])∧∃ iv',BW w0 w' bb (img++mv img.length (whP (cdP ck ca cb) (St.pcAll y loops) i)) loops iv'∧BG bb w w' iv iv':=by
 have hcl:=cdP_len ck ca cb
 have hyl:=St.pcAll_len y loops
 have hcm:=cdP_mv img.length ck ca cb hla hlb
 have p6:=Ex.nodes_pos ca
 have p7:=Ex.nodes_pos cb
 have hW1:=hw.below (below_new w (.cells #[.int .i64 k,.int .i64 n,.int .i64 ek,.int .i64 en,.slice ead em ec,.int .i64 ck,.int .i64 ak,.int .i64 an,.slice aad am ac,.int .i64 bk,.int .i64 bn,.slice bad bm bc,.slice yad y.length yc,.slice lad l.length lc] 123))
 have hK1:=Kp.new hw (.cells #[.int .i64 k,.int .i64 n,.int .i64 ek,.int .i64 en,.slice ead em ec,.int .i64 ck,.int .i64 ak,.int .i64 an,.slice aad am ac,.int .i64 bk,.int .i64 bn,.slice bad bm bc,.slice yad y.length yc,.slice lad l.length lc] 123)
 have HC1:=bcond_any w0 _ bb img loops iv ck ca cb ak an bk bn aad bad am ac bm bc hE hK hck i2 i3 hla hlb (by omega) (by omega) hW1 (by omega)
 have HK1:Hid (Kp (w.alloc (.cells #[.int .i64 k,.int .i64 n,.int .i64 ek,.int .i64 en,.slice ead em ec,.int .i64 ck,.int .i64 ak,.int .i64 an,.slice aad am ac,.int .i64 bk,.int .i64 bn,.slice bad bm bc,.slice yad y.length yc,.slice lad l.length lc] 123)) bb iv w.heap.size (.cells #[.int .i64 k,.int .i64 n,.int .i64 ek,.int .i64 en,.slice ead em ec,.int .i64 ck,.int .i64 ak,.int .i64 an,.slice aad am ac,.int .i64 bk,.int .i64 bn,.slice bad bm bc,.slice yad y.length yc,.slice lad l.length lc] 123 (0,0))∧BG bb w (w.alloc (.cells #[.int .i64 k,.int .i64 n,.int .i64 ek,.int .i64 en,.slice ead em ec,.int .i64 ck,.int .i64 ak,.int .i64 an,.slice aad am ac,.int .i64 bk,.int .i64 bn,.slice bad bm bc,.slice yad y.length yc,.slice lad l.length lc] 123)) iv iv):=⟨hK1,BG.of_below (below_new _ _)⟩
 have HI:Hid (St.Sl w0 y (.slice yad y.length yc)∧St.LayAll y∧ListC w0 bb N∧mv img.length (cdP ck ca cb)=cdP ck ca cb):=⟨i4,hly,hL,hcm⟩
 have hlt:=hw.cells.2.2.2
 clear hw hW1 hK1 i2 i3 i4 hly hL hcm hE hK
 generalize cdP ck ca cb=C at *
 go_enter Tryd.func127,Tryd.ntmps127
 go_wp2_with (go_at_call 145;refine HC1.mono ?_;rintro r w2 ⟨q,p,iv2,rfl,hp2,hw2,hg2⟩;have hk2:=HK1.out.1.go hg2;obtain ⟨d1,e1,lk2⟩:=cells_of (l:=[_,_,_,_,_,_,_,_,_,_,_,_,_,_]) hk2.blk;have x2_12:=d1 12 _ rfl;clear d1 e1;have HC2:=HI.out.2.2.1 y w2 _ (img++C++[⟨12,0,0⟩]) loops iv2 (by omega) HI.out.1 HI.out.2.1 hw2 (by simp;omega) (by omega);have H2:Hid (LpAt w2 bb iv2 q p (img++C).length∧BG bb w w2 iv iv2):=⟨hp2,HK1.out.2.trans hg2⟩;clear hp2 hw2 hg2 hk2 HC1)
 go_wp2_with (go_at_call 60;refine HC2.mono ?_;rintro r w3 ⟨rfl,iv3,hw3,hg3⟩;have H3:Hid (BW w0 w3 bb (img++C++[⟨12,0,0⟩]++mv ((img++C++[(⟨12,0,0⟩:Io)]).length) (St.pcAll y loops)) loops iv3∧LpAt w3 bb iv3 q p (img++C).length∧BG bb w w3 iv iv3):=⟨hw3,H2.out.1.go hg3,H2.out.2.trans hg3⟩;clear hw3 hg3 HC2)
 obtain ⟨s2,hs2⟩:∃ s2:List Io,s2=img++C++[⟨12,0,0⟩]++mv ((img++C++[(⟨12,0,0⟩:Io)]).length) (St.pcAll y loops):=⟨_,rfl⟩
 have ls2:s2.length=img.length+C.length+1+(St.pcAll y loops).length:=by rw [hs2];simp [mv_len];omega
 rw [← hs2] at H3
 have HC3:=leap_any w0 w3 bb s2 loops iv3 11 H3.out.1 (by omega)
 go_wp2_with (go_at_call 146;refine HC3.mono ?_;rintro r w4 ⟨q2,p2,iv4,rfl,hp4,hw4,hg4⟩;have H4:Hid (LpAt w4 bb iv4 q2 p2 s2.length∧LpAt w4 bb iv4 q p (img++C).length∧BG bb w w4 iv iv4):=⟨hp4,H3.out.2.1.go hg4,H3.out.2.2.trans hg4⟩;have HC4:=land_any w0 w4 bb (s2++[⟨11,0,0⟩]) loops iv4 q p _ hw4 H4.out.2.1 (by simp only [List.length_append,ls2,List.length_cons,List.length_nil];omega);clear hp4 hw4 hg4 HC3)
 obtain ⟨s4,hs4⟩:∃ s4:List Io,s4=landI (s2++[⟨11,0,0⟩]) (img++C).length:=⟨_,rfl⟩
 have ls4:s4.length=s2.length+1:=by rw [hs4];simp [landI]
 go_wp2_with (go_at_call 158;refine HC4.mono ?_;rintro r w5 ⟨rfl,hw5,hg5⟩;have hw5':BW w0 w5 bb s4 loops iv4:=(by rw [hs4];exact hw5);have HC5:=put_any w0 w5 bb s4 loops iv4 15 i hw5' (by omega);have H5:Hid (LpAt w5 bb iv4 q2 p2 s2.length∧BG bb w w5 iv iv4):=⟨H4.out.1.go hg5,H4.out.2.2.trans hg5⟩;clear hw5 hw5' hg5 HC4)
 go_wp2_with (go_at_call 122;refine HC5.mono ?_;rintro r w6 ⟨rfl,iv6,hw6,hg6⟩;have HC6:=land_any w0 w6 bb _ loops iv6 q2 p2 _ hw6 (H5.out.1.go hg6) (by rw [List.length_append,ls4];omega);have H6:Hid (BG bb w w6 iv iv6):=H5.out.2.trans hg6;clear hw6 hg6 HC5)
 go_wp2_with (go_at_call 158;refine HC6.mono ?_;rintro r w7 ⟨rfl,hw7,hg7⟩;have H7:Hid (_∧BG bb w w7 iv iv6):=⟨hw7,H6.out.trans hg7⟩;clear hw7 hg7 HC6)
 go_end0
 refine ⟨rfl,iv6,?_,H7.out.2⟩
 have hq:=H7.out.1
 have e:=wh_img img C (St.pcAll y loops) i HI.out.2.2.2 s2 s4 hs2 hs4
 unfold landI at e
 rw [e] at hq
 exact hq
theorem BW.loops {w0 w:World} {bb:Nat} {img:List Io} {loops:Int} {iv:Value} (h:BW w0 w bb img loops iv) (z:Int):BW w0 (w.setCell ⟨bb,1,none⟩ (.int .i64 z)) bb img z iv∧BG bb w (w.setCell ⟨bb,1,none⟩ (.int .i64 z)) iv iv:=by
 have ho:=h.old
 refine ⟨⟨h.bel.setCell (by show w0.heap.size≤bb;omega) _,h.old,?_,ownsRow_same h.own (fun k hk1 _=>Below.heap_setCell _ _ _ _ (by show k≠bb;omega))⟩,rfl,rfl,rfl,by simp,fun k _ h2 _=>Below.heap_setCell _ _ _ _ h2,.inl rfl⟩
 rw [setCell_at h.blk]
 simp
set_option maxRecDepth 20000 in
set_option maxHeartbeats 400000 in
theorem loop125_any (w0:World) (bb:Nat) (n:Int) (q p:Nat) (w:World) (img I:List Io) (loops:Int) (iv:Value) (hw:BW w0 w bb img loops iv) (hn:0≤n∧n≤1000) (hlen:img.length+8+I.length≤700000) (hlo:0≤loops∧loops≤1000000)
  (hin:n≠0→∀ W iv',BW w0 W bb (img++[⟨13,loops,n - 1⟩]) (loops+1) iv'→BG bb w W iv iv'→Calls Tryd.prog 125 #[.int .i64 loops,.pointer (some ⟨q,0,none⟩),.pointer (some ⟨p,0,none⟩)] W fun r w'=>r = .returned (.tuple #[])∧∃ iv'',BW w0 w' bb (img++[⟨13,loops,n - 1⟩]++mv ((img++[(⟨13,loops,n - 1⟩:Io)]).length) I) (loops+1) iv''∧BG bb W w' iv' iv'') :
  Calls Tryd.prog 124 #[.pointer (some ⟨bb,0,none⟩),.int .i64 n,.func (Fn.func 125) #[] #[.pointer (some ⟨q,0,none⟩),.pointer (some ⟨p,0,none⟩)]] w fun r w'=>r = .returned (.tuple #[])∧∃ iv',BW w0 w' bb (img++mv img.length (if n=0 then [] else lpP loops n I)) loops iv'∧BG bb w w' iv iv':=by
 by_cases h0:n=0
 ·subst h0
  have HW:Hid (BW w0 w bb img loops iv):=hw
  clear hin hw
  go_enter Tryd.func124,Tryd.ntmps124
  go_wp2_with fail
  refine bodyPost_ret (results_none rfl _ _ _) rfl ?_
  refine ⟨rfl,iv,?_,BG.refl _ _ _⟩
  have hq:=HW.out
  first | rw [if_pos rfl,mv_nil,List.append_nil] | rw [mv_nil,List.append_nil]
  exact hq
 obtain ⟨ad,c,rfl⟩:=hw.shape
 obtain ⟨c0,c1,fz,hlt⟩:=hw.cells
 have HW:Hid (BW w0 w bb img loops (.slice ad img.length c)):=hw
 have HI:Hid _:=hin h0
 have h0b:(n == 0)=false:=by simpa using h0
 clear hw fz hin
 go_enter Tryd.func124,Tryd.ntmps124
 go_wp2_with (at_builtin;refine wp_pushI rfl (.tmp 18) (.tmp 23) rfl (bb+1) (.slice ad img.length c) img 13 loops (n - 1) w.heap.size img.length rfl rfl rfl rfl HW.out.own (by omega) (by omega) ?_;intro ad4 c4 w4 ho4 hg4 hv4;obtain ⟨q1,q2,q3⟩:=HW.out.push (img':=img++[⟨13,loops,n - 1⟩]) (by simpa using ho4) hg4 (by simpa using hv4);have H4:Hid (_∧_):=⟨q2,q3⟩;obtain ⟨d1,e1,l1⟩:=cells_of (l:=[_,_]) q1;have d10:=d1 0 _ rfl;have d11:=d1 1 _ rfl;have e10:=e1 0;have e11:=e1 1;clear q1 q2 q3 ho4 hg4 hv4 d1 e1)
 simp only [List.length_append,List.length_cons,List.length_nil,Nat.zero_add] at H4
 have hx:=H4.out.1.loops (loops+1)
 have HC:=HI.out _ _ hx.1 (H4.out.2.trans hx.2)
 have HG:Hid (BG bb w ((w4.setCell ⟨bb,0,none⟩ (.slice ad4 (img.length+1) c4)).setCell ⟨bb,1,none⟩ (.int .i64 (loops+1))) (.slice ad img.length c) (.slice ad4 (img.length+1) c4)):=H4.out.2.trans hx.2
 clear hx HI
 obtain ⟨s5,hs5⟩:∃ s5:List Io,s5=img++[⟨13,loops,n - 1⟩]++mv ((img++[(⟨13,loops,n - 1⟩:Io)]).length) I:=⟨_,rfl⟩
 have LS5:Hid (s5.length=img.length+1+I.length):=by show _=_;rw [hs5];simp [mv_len];omega
 rw [← hs5] at HC
 have HS5:Hid (s5=img++[⟨13,loops,n - 1⟩]++mv ((img++[(⟨13,loops,n - 1⟩:Io)]).length) I):=hs5
 clear hs5
 go_wp2_with (first
  | (go_at_call 125;refine HC.mono ?_;rintro r w5 ⟨rfl,iv5,hw5,hg5⟩;obtain ⟨ad5,c5,rfl⟩:=hw5.shape;obtain ⟨z0,z1,zf,zl⟩:=hw5.cells;have zf0:=zf 0;have zf1:=zf 1;have hy:=hw5.loops loops;have H5:Hid (BW w0 (w5.setCell ⟨bb,1,none⟩ (.int .i64 loops)) bb s5 loops (.slice ad5 s5.length c5)∧BG bb w (w5.setCell ⟨bb,1,none⟩ (.int .i64 loops)) (.slice ad img.length c) (.slice ad5 s5.length c5)):=⟨hy.1,(HG.out.trans hg5).trans hy.2⟩;clear hw5 hg5 HC zf hy)
  | (at_builtin;refine wp_pushI rfl (.tmp 53) (.tmp 57) rfl (bb+1) (.slice ad5 s5.length c5) s5 14 loops ((img.length:Int)+1) w5.heap.size s5.length (by simp) rfl rfl rfl H5.out.1.own (by have:=H5.out.1.cells.2.2.2;omega) (by have:=LS5.out;omega) ?_;intro ad6 c6 w6 ho6 hg6 hv6;obtain ⟨q1,q2,q3⟩:=H5.out.1.push (img':=s5++[⟨14,loops,(img.length:Int)+1⟩]) (by simpa using ho6) hg6 (by simpa using hv6);have H6:Hid (_∧_):=⟨q2,H5.out.2.trans q3⟩;obtain ⟨d1,e1,l1⟩:=cells_of (l:=[_,_]) q1;have d60:=d1 0 _ rfl;have e60:=e1 0;clear q1 q2 q3 ho6 hg6 hv6 d1 e1))
 go_end0
 simp only [List.length_append,List.length_cons,List.length_nil,Nat.zero_add] at H6
 refine ⟨rfl,_,?_,H6.out.2⟩
 have hq:=H6.out.1
 have e:=lp_img img I loops n
 rw [← HS5.out] at e
 simp only [List.length_append,List.length_cons,List.length_nil,Nat.zero_add] at e
 have e2:s5++[(⟨14,loops,(img.length:Int)+1⟩:Io)]=img++mv img.length (lpP loops n I):=by rw [← e];simp
 rw [e2] at hq
 first | exact hq | (rw [if_neg h0];exact hq)
set_option maxRecDepth 20000 in
set_option maxHeartbeats 400000 in
theorem loop126_any (w0:World) (bb:Nat) (n:Int) (q p:Nat) (w:World) (img I:List Io) (loops:Int) (iv:Value) (hw:BW w0 w bb img loops iv) (hn:0≤n∧n≤1000) (hlen:img.length+8+I.length≤700000) (hlo:0≤loops∧loops≤1000000)
  (hin:n≠0→∀ W iv',BW w0 W bb (img++[⟨13,loops,n - 1⟩]) (loops+1) iv'→BG bb w W iv iv'→Calls Tryd.prog 126 #[.int .i64 loops,.pointer (some ⟨q,0,none⟩),.pointer (some ⟨p,0,none⟩)] W fun r w'=>r = .returned (.tuple #[])∧∃ iv'',BW w0 w' bb (img++[⟨13,loops,n - 1⟩]++mv ((img++[(⟨13,loops,n - 1⟩:Io)]).length) I) (loops+1) iv''∧BG bb W w' iv' iv'') :
  Calls Tryd.prog 124 #[.pointer (some ⟨bb,0,none⟩),.int .i64 n,.func (Fn.func 126) #[] #[.pointer (some ⟨q,0,none⟩),.pointer (some ⟨p,0,none⟩)]] w fun r w'=>r = .returned (.tuple #[])∧∃ iv',BW w0 w' bb (img++mv img.length (if n=0 then [] else lpP loops n I)) loops iv'∧BG bb w w' iv iv':=by
 by_cases h0:n=0
 ·subst h0
  have HW:Hid (BW w0 w bb img loops iv):=hw
  clear hin hw
  go_enter Tryd.func124,Tryd.ntmps124
  go_wp2_with fail
  refine bodyPost_ret (results_none rfl _ _ _) rfl ?_
  refine ⟨rfl,iv,?_,BG.refl _ _ _⟩
  have hq:=HW.out
  first | rw [if_pos rfl,mv_nil,List.append_nil] | rw [mv_nil,List.append_nil]
  exact hq
 obtain ⟨ad,c,rfl⟩:=hw.shape
 obtain ⟨c0,c1,fz,hlt⟩:=hw.cells
 have HW:Hid (BW w0 w bb img loops (.slice ad img.length c)):=hw
 have HI:Hid _:=hin h0
 have h0b:(n == 0)=false:=by simpa using h0
 clear hw fz hin
 go_enter Tryd.func124,Tryd.ntmps124
 go_wp2_with (at_builtin;refine wp_pushI rfl (.tmp 18) (.tmp 23) rfl (bb+1) (.slice ad img.length c) img 13 loops (n - 1) w.heap.size img.length rfl rfl rfl rfl HW.out.own (by omega) (by omega) ?_;intro ad4 c4 w4 ho4 hg4 hv4;obtain ⟨q1,q2,q3⟩:=HW.out.push (img':=img++[⟨13,loops,n - 1⟩]) (by simpa using ho4) hg4 (by simpa using hv4);have H4:Hid (_∧_):=⟨q2,q3⟩;obtain ⟨d1,e1,l1⟩:=cells_of (l:=[_,_]) q1;have d10:=d1 0 _ rfl;have d11:=d1 1 _ rfl;have e10:=e1 0;have e11:=e1 1;clear q1 q2 q3 ho4 hg4 hv4 d1 e1)
 simp only [List.length_append,List.length_cons,List.length_nil,Nat.zero_add] at H4
 have hx:=H4.out.1.loops (loops+1)
 have HC:=HI.out _ _ hx.1 (H4.out.2.trans hx.2)
 have HG:Hid (BG bb w ((w4.setCell ⟨bb,0,none⟩ (.slice ad4 (img.length+1) c4)).setCell ⟨bb,1,none⟩ (.int .i64 (loops+1))) (.slice ad img.length c) (.slice ad4 (img.length+1) c4)):=H4.out.2.trans hx.2
 clear hx HI
 obtain ⟨s5,hs5⟩:∃ s5:List Io,s5=img++[⟨13,loops,n - 1⟩]++mv ((img++[(⟨13,loops,n - 1⟩:Io)]).length) I:=⟨_,rfl⟩
 have LS5:Hid (s5.length=img.length+1+I.length):=by show _=_;rw [hs5];simp [mv_len];omega
 rw [← hs5] at HC
 have HS5:Hid (s5=img++[⟨13,loops,n - 1⟩]++mv ((img++[(⟨13,loops,n - 1⟩:Io)]).length) I):=hs5
 clear hs5
 go_wp2_with (first
  | (go_at_call 126;refine HC.mono ?_;rintro r w5 ⟨rfl,iv5,hw5,hg5⟩;obtain ⟨ad5,c5,rfl⟩:=hw5.shape;obtain ⟨z0,z1,zf,zl⟩:=hw5.cells;have zf0:=zf 0;have zf1:=zf 1;have hy:=hw5.loops loops;have H5:Hid (BW w0 (w5.setCell ⟨bb,1,none⟩ (.int .i64 loops)) bb s5 loops (.slice ad5 s5.length c5)∧BG bb w (w5.setCell ⟨bb,1,none⟩ (.int .i64 loops)) (.slice ad img.length c) (.slice ad5 s5.length c5)):=⟨hy.1,(HG.out.trans hg5).trans hy.2⟩;clear hw5 hg5 HC zf hy)
  | (at_builtin;refine wp_pushI rfl (.tmp 53) (.tmp 57) rfl (bb+1) (.slice ad5 s5.length c5) s5 14 loops ((img.length:Int)+1) w5.heap.size s5.length (by simp) rfl rfl rfl H5.out.1.own (by have:=H5.out.1.cells.2.2.2;omega) (by have:=LS5.out;omega) ?_;intro ad6 c6 w6 ho6 hg6 hv6;obtain ⟨q1,q2,q3⟩:=H5.out.1.push (img':=s5++[⟨14,loops,(img.length:Int)+1⟩]) (by simpa using ho6) hg6 (by simpa using hv6);have H6:Hid (_∧_):=⟨q2,H5.out.2.trans q3⟩;obtain ⟨d1,e1,l1⟩:=cells_of (l:=[_,_]) q1;have d60:=d1 0 _ rfl;have e60:=e1 0;clear q1 q2 q3 ho6 hg6 hv6 d1 e1))
 go_end0
 simp only [List.length_append,List.length_cons,List.length_nil,Nat.zero_add] at H6
 refine ⟨rfl,_,?_,H6.out.2⟩
 have hq:=H6.out.1
 have e:=lp_img img I loops n
 rw [← HS5.out] at e
 simp only [List.length_append,List.length_cons,List.length_nil,Nat.zero_add] at e
 have e2:s5++[(⟨14,loops,(img.length:Int)+1⟩:Io)]=img++mv img.length (lpP loops n I):=by rw [← e];simp
 rw [e2] at hq
 first | exact hq | (rw [if_neg h0];exact hq)
end Go.Proofs.YtnkgbkkakokciacDoor.B
namespace Go.Proofs.YtnkgbkkakokciacDoor.B
theorem again_puts {c:Ms→Bool} {f:Ms→Ms × Option Nat} (hf:∀ s,s.puts.length≤s.steps→(f s).1.puts.length≤(f s).1.steps):∀ (n:Nat) (s:Ms),s.puts.length≤s.steps→(again c f n s).1.puts.length≤(again c f n s).1.steps
 | 0,s,h=>h
 | n+1,s,h=>by
  unfold again
  by_cases hc:c s
  ·rw [if_pos hc]
   have h1:=hf s h
   rcases hr:f s with ⟨s',_ | z⟩
   ·rw [hr] at h1
    exact again_puts (c:=c) hf n s' h1
   ·rw [hr] at h1
    exact h1
  ·rw [if_neg hc]
   exact h
mutual
theorem St.run_puts (is:List Int):∀ (x:St) (at_:Nat) (s:Ms),s.puts.length≤s.steps→(St.run is x at_ s).1.puts.length≤(St.run is x at_ s).1.steps
 | .mk k n e ck ca cb b l,at_,s,h=>by
  unfold St.run
  by_cases h0:s.steps=20000
  ·rw [if_pos h0];exact h
  rw [if_neg h0]
  have hn:({ s with steps:=s.steps+1 }:Ms).puts.length≤({ s with steps:=s.steps+1 }:Ms).steps:=by simp only;omega
  split
  ·exact hn
  split
  ·simp;omega
  split
  ·split
   ·exact St.runAll_puts is b _ _ hn
   ·exact St.runAll_puts is l _ _ hn
  split
  ·exact again_puts (fun s hs=>St.runAll_puts is b _ s hs) _ _ hn
  split
  ·exact again_puts (fun s hs=>St.runAll_puts is b _ s hs) _ _ hn
  split
  ·exact St.runAll_puts is b _ _ hn
  ·exact hn
theorem St.runAll_puts (is:List Int):∀ (a:List St) (at_:Nat) (s:Ms),s.puts.length≤s.steps→(St.runAll is a at_ s).1.puts.length≤(St.runAll is a at_ s).1.steps
 | [],at_,s,h=>by unfold St.runAll;exact h
 | x::r,at_,s,h=>by
  have h1:=St.run_puts is x at_ s h
  unfold St.runAll
  rcases hr:St.run is x at_ s with ⟨s',_ | z⟩
  ·rw [hr] at h1
   exact St.runAll_puts is r (at_+x.count) s' h1
  ·rw [hr] at h1
   exact h1
end
def loopRest (c:Ms→Bool) (f:Ms→Ms × Option Nat) (m:Nat):Ms × Option Nat→Ms × Option Nat
 | (s,none)=>again c f m s
 | (s,some z)=>(s,some z)
theorem loopRest_step {c:Ms→Bool} {f:Ms→Ms × Option Nat} {m:Nat} {s:Ms} (hc:c s=true):loopRest c f (m+1) (s,none)=loopRest c f m (f s):=by
 show again c f (m+1) s=_
 rw [again,if_pos hc]
 rcases f s with ⟨s',_ | z⟩ <;> rfl
theorem loopRest_stop {c:Ms→Bool} {f:Ms→Ms × Option Nat} {m:Nat} {s:Ms} (hc:c s=false):loopRest c f m (s,none)=(s,none):=by
 show again c f m s=_
 cases m with
 | zero=>rfl
 | succ m=>rw [again,if_neg (by simp [hc])]
theorem loopRest_zero {c:Ms→Bool} {f:Ms→Ms × Option Nat} (r:Ms × Option Nat):loopRest c f 0 r=r:=by
 rcases r with ⟨s,_ | z⟩ <;> rfl
end Go.Proofs.YtnkgbkkakokciacDoor.B
namespace Go.Proofs.YtnkgbkkakokciacDoor
open Go.ChangeShapes Go.WideShapes Go.ChangeAt Go.RowKit
theorem below_seq' {w w1:World} {n:Nat} (h:Below w.heap.size w w1):Below w.heap.size w (w1.drewN n):=below_seq h below_drewN'
theorem Check_all (w:World) (l:List In) (iad:Option Addr) (ic:Nat) (hkk:KindsIn w) (h:InSl w l (.slice iad l.length ic)) (c k:Int) (hc:checkI l=(c,k)):Calls Tryd.prog 38 #[.slice iad l.length ic] w fun r w'=>r = .returned (.agg #[.int .i64 c,.int .i64 k])∧Below w.heap.size w w':=by
 by_cases hl:l.length≤2000
 ·exact Check_walk w l iad ic hkk h hl c k hc
 ·have e:checkI l=(2,0):=by unfold checkI;rw [if_pos (by omega)]
  rw [e] at hc
  cases hc
  exact Check_many w l.length iad ic (by omega)
theorem gKinds:Tryd.prog.globalNamed "punctual/mach.kinds"=some 1:=by kernel_rfl
theorem tKinds:(Tryd.prog.globals[1]?).map (·.type)=some 112:=by kernel_rfl
theorem laidCells104:Tryd.prog.cellsOf 111=6:=by kernel_rfl
theorem laidCells3:Tryd.prog.cellsOf 3=1:=by kernel_rfl
section
variable {H:Type} {enc:TypeId × Value→H} {w:World} {base:Nat} {sp:Nat→Bool} {held:Bool}
theorem one_at {cs:List Value} {o k j:Nat} {c:Value} (hj:j<k) (h:(((cs.drop o).take k).drop j).take 1=[c]):cs[o+j]?=some c:=by
 have h0:((((cs.drop o).take k).drop j).take 1)[0]?=some c:=by rw [h];rfl
 rw [List.getElem?_take_of_lt (by omega),List.getElem?_drop,List.getElem?_take_of_lt (by omega),List.getElem?_drop] at h0
 simpa using h0
theorem int_at {cs:List Value} {o k j n:Nat} {z:Int} {y:DataW H × List MemPlace} (hj:j<k) (h:DataW.trod enc Tryd.prog w base sp held n 3 ((((cs.drop o).take k).drop j).take 1)=some y) (hy:y.1 = .lit (.int .i64 z)):cs[o+j]?=some (.int .i64 z):=by
 obtain ⟨m,h1,rfl,-⟩:=DataW.trod_int Tryd.underlying3 h
 simp at hy
 subst hy
 exact one_at hj h1
theorem row104 {cs:List Value} {o n:Nat} {k0 k1 k2 k3 k4 k5:Int} {y:DataW H × List MemPlace} (h:DataW.trod enc Tryd.prog w base sp held n 111 ((cs.drop o).take 6)=some y)
  (hy:y.1 = .agg [.lit (.int .i64 k0),.lit (.int .i64 k1),.lit (.int .i64 k2),.lit (.int .i64 k3),.lit (.int .i64 k4),.lit (.int .i64 k5)]) :
  cs[o]?=some (.int .i64 k0)∧cs[o+1]?=some (.int .i64 k1)∧cs[o+2]?=some (.int .i64 k2)∧cs[o+3]?=some (.int .i64 k3)∧cs[o+4]?=some (.int .i64 k4)∧cs[o+5]?=some (.int .i64 k5):=by
 obtain ⟨xs,n1,rfl,rfl,-,hlen,hf⟩:=DataW.trod_struct Tryd.underlying111 h
 match xs,hlen with
 | [y0,y1,y2,y3,y4,y5],_ =>
  simp only [List.map_cons,List.map_nil,DataW.agg.injEq,List.cons.injEq,and_true] at hy
  obtain ⟨e0,e1,e2,e3,e4,e5⟩:=hy
  have f0:DataW.trod enc Tryd.prog w base sp held n1 3 ((((cs.drop o).take 6).drop 0).take (Tryd.prog.cellsOf 3))=some y0:=hf 0 _ rfl
  have f1:DataW.trod enc Tryd.prog w base sp held n1 3 ((((cs.drop o).take 6).drop 1).take (Tryd.prog.cellsOf 3))=some y1:=hf 1 _ rfl
  have f2:DataW.trod enc Tryd.prog w base sp held n1 3 ((((cs.drop o).take 6).drop 2).take (Tryd.prog.cellsOf 3))=some y2:=hf 2 _ rfl
  have f3:DataW.trod enc Tryd.prog w base sp held n1 3 ((((cs.drop o).take 6).drop 3).take (Tryd.prog.cellsOf 3))=some y3:=hf 3 _ rfl
  have f4:DataW.trod enc Tryd.prog w base sp held n1 3 ((((cs.drop o).take 6).drop 4).take (Tryd.prog.cellsOf 3))=some y4:=hf 4 _ rfl
  have f5:DataW.trod enc Tryd.prog w base sp held n1 3 ((((cs.drop o).take 6).drop 5).take (Tryd.prog.cellsOf 3))=some y5:=hf 5 _ rfl
  rw [laidCells3] at f0 f1 f2 f3 f4 f5
  exact ⟨int_at (by omega) f0 e0,int_at (by omega) f1 e1,int_at (by omega) f2 e2,int_at (by omega) f3 e3,int_at (by omega) f4 e4,int_at (by omega) f5 e5⟩
end
end Go.Proofs.YtnkgbkkakokciacDoor
