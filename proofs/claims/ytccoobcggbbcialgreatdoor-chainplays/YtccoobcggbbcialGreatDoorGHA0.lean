import Derived.Test.YtccoobcggbbcialGreatDoorGXR
import Derived.Deep.Cut
import Derived.ArgAppend
namespace Go.Proofs.YtccoobcggbbcialGreatDoor.Ap
open Go.ChangeShapes Go.WideShapes Go.ChangeAt Go.RowKit
def RB(W:World)(v:Value)(n:Nat)(P:Nat→Int→Prop):Prop :=
 (v = .slice none 0 0∧n=0)∨∃g cap cur,v = .slice (some ⟨g,0,none⟩) n cap∧W.heap[g]?=some (.cells cur 3 (0,0))∧n≤cap∧cap≤maxLen∧cur.size=cap∧∀k,k<n→∃z,cur[k]?=some (.int .i64 z)∧P k z
theorem RB.keep{W W':World}{v:Value}{n:Nat}{P:Nat→Int→Prop}(h:RB W v n P)(hk:∀q,v.ownBlock=some q→q<W.heap.size→W'.heap[q]?=W.heap[q]?):RB W' v n P:=by
 rcases h with h|⟨g,cap,cur,rfl,hg,h1,h2,h3,h4⟩
 ·exact .inl h
 ·exact .inr ⟨g,cap,cur,rfl,(hk g rfl (Array.getElem?_eq_some_iff.1 hg).1).trans hg,h1,h2,h3,h4⟩
theorem RB.mono{W:World}{v:Value}{n:Nat}{P P':Nat→Int→Prop}(h:RB W v n P)(hp:∀k z,k<n→P k z→P' k z):RB W v n P':=by
 rcases h with h|⟨g,cap,cur,rfl,hg,h1,h2,h3,h4⟩
 ·exact .inl h
 ·refine .inr ⟨g,cap,cur,rfl,hg,h1,h2,h3,fun k hk=>?_⟩
  obtain⟨z,hz,hpz⟩:=h4 k hk
  exact⟨z,hz,hp k z hk hpz⟩
theorem RB.lt{W:World}{v:Value}{n:Nat}{P:Nat→Int→Prop}(h:RB W v n P){q:Nat}(hq:v.ownBlock=some q):q<W.heap.size:=by
 rcases h with ⟨rfl,-⟩|⟨g,cap,cur,rfl,hg,-⟩
 ·cases hq
 ·cases hq
  exact(Array.getElem?_eq_some_iff.1 hg).1
theorem RB.ofVals{W:World}{B:Nat}{v:Value}{n:Nat}{vals:List Value}{P:Nat→Int→Prop}(h:W.ownsRow B 3 1 v n vals)(hp:∀k,k<n→∃z,vals[k]?=some (.int .i64 z)∧P k z):RB W v n P:=by
 obtain⟨hl,h|⟨g,cap,cur,rfl,-,hg,h1,h2,h3,h4⟩⟩:=h
 ·exact .inl h
 ·refine .inr ⟨g,cap,cur,rfl,hg,h1,h2,by omega,fun k hk=>?_⟩
  obtain⟨z,hz,hpz⟩:=hp k hk
  refine⟨z,?_,hpz⟩
  rw[← h4,List.getElem?_take,if_pos (by omega)]at hz
  simpa using hz
theorem RB.vals{cur:Array Value}{n:Nat}{P:Nat→Int→Prop}(hs:n≤cur.size)(h:∀k,k<n→∃z,cur[k]?=some (.int .i64 z)∧P k z):(cur.toList.take n).length=n∧(∀k,k<n→∃z,(cur.toList.take n)[k]?=some (.int .i64 z)∧P k z)∧(∀u∈cur.toList.take n,u.oneCell'=true):=by
 have hk:∀k,k<n→∃z,(cur.toList.take n)[k]?=some (.int .i64 z)∧P k z:=fun k hk=>by
  obtain⟨z,hz,hpz⟩:=h k hk
  refine⟨z,?_,hpz⟩
  rw[List.getElem?_take,if_pos hk]
  simpa using hz
 have hl:(cur.toList.take n).length=n:=by simp;omega
 refine⟨hl,hk,fun u hu=>?_⟩
 obtain⟨k,hk',rfl⟩:=List.getElem_of_mem hu
 obtain⟨z,hz,-⟩:=hk k (by omega)
 rw[List.getElem?_eq_getElem hk']at hz
 rw[Option.some.inj hz]
 rfl
theorem RB.cellsAt{W:World}{g n:Nat}{cur:Array Value}(hg:W.heap[g]?=some (.cells cur 3 (0,0))):∀j u,(cur.toList.take n)[j]?=some u→W.cell? ((⟨g,0,none⟩:Addr).add j)=some u:=by
 intro j u hj
 have hjn:=(List.getElem?_eq_some_iff.1 hj).1
 rw[List.length_take]at hjn
 rw[List.getElem?_take,if_pos (by omega)]at hj
 rw[Addr.add_lit]
 have:=(cells_of (l:=cur.toList) (by simpa using hg)).1 j u hj
 simpa using this
theorem RB.app7{W:World}{v:Value}{n:Nat}{P:Nat→Int→Prop}(h:RB W v n P)(hn:n≤100000) :
  ∃ad c w',(Builtin.append_ #[25,25] 25 #[v,.slice (some ⟨W.heap.size,0,none⟩) 1 1]).run Tryz.prog (W.alloc (.cells #[.int .i64 7] 3)) = .ok (.slice ad (n+1) c) w'∧RB w' v n P∧(W.alloc (.cells #[.int .i64 7] 3)).grownBy w' v.ownBlock:=by
 obtain⟨i0,hi0,hz0,hz1,hz2⟩:=info_parts info3
 have hnw:∀j u,[Value.int .i64 7][j]?=some u→(W.alloc (.cells #[.int .i64 7] 3)).cell? ((⟨W.heap.size,0,none⟩:Addr).add j)=some u:=fun j u hj=>by
  rw[Addr.add_lit]
  have:=(cells_of (l:=[Value.int .i64 7]) (heap_alloc_new W (.cells #[.int .i64 7] 3))).1 j u hj
  simpa using this
 have h7:∀u ∈ [Value.int .i64 7],u.oneCell'=true:=fun u hu=>by
  rw[List.mem_singleton.1 hu];rfl
 rcases h with ⟨rfl,rfl⟩|⟨g,cap,cur,rfl,hg,hnc,hcm,hcs,hk⟩
 ·obtain⟨v',w',hr,ho,hgr,-,-⟩:=run_append_own_at (P:=Tryz.prog) (W.alloc (.cells #[.int .i64 7] 3)) 0 25 25 3 i0 _ 1 8 Tryz.underlying25 hi0 hz0 hz1 hz2 rfl (by decide) (.slice none 0 0) 0 [] (World.ownsRow_nil _ _ _ _) ⟨W.heap.size,0,none⟩ 1 1 [.int .i64 7] rfl hnw h7 (by decide) (by decide) (Nat.zero_le _)
  obtain⟨ad,c,rfl⟩:=owns_value ho
  exact⟨ad,c,w',hr,.inl ⟨rfl,rfl⟩,hgr⟩
 ·have hlt:=(Array.getElem?_eq_some_iff.1 hg).1
  have hg1:(W.alloc (.cells #[.int .i64 7] 3)).heap[g]?=some (.cells cur 3 (0,0)):=(Below.heap_alloc _ _ _ hlt).trans hg
  obtain⟨l1,l2,l3⟩:=RB.vals (by omega) hk
  by_cases hroom:n+1≤cap
  ·have hr:=run_append_room (P:=Tryz.prog) (W.alloc (.cells #[.int .i64 7] 3)) 25 25 3 i0 Tryz.underlying25 hi0 g n cap cur hg1 ⟨W.heap.size,0,none⟩ 1 1 [.int .i64 7] (by rw[hz1];rfl) hnw h7 hroom (by rw[hz1];simp;omega)
   refine⟨_,_,_,hr,.inr ⟨g,cap,_,rfl,setRow_heap _ g cur _ _ _ hg1,hnc,hcm,?_,fun k hk'=>?_⟩,⟨rfl,rfl,rfl,by simp,fun k _ hne=>setRow_other _ g k _ (fun e=>hne (by simp[Value.ownBlock,e]))⟩⟩
   ·simp only[hz1,List.size_toArray,List.length_append,List.length_take,List.length_drop,Array.length_toList,List.length_cons,List.length_nil]
    omega
   ·obtain⟨z,hz,hp⟩:=l2 k hk'
    refine⟨z,?_,hp⟩
    simp only[hz1,Nat.mul_one,List.getElem?_toArray]
    rw[List.append_assoc,List.getElem?_append_left (by omega)]
    exact hz
  ·obtain⟨v',w',hr,ho,hgr⟩:=run_append_arg_grows (P:=Tryz.prog) (W.alloc (.cells #[.int .i64 7] 3)) 25 25 3 i0 _ 1 8 Tryz.underlying25 hi0 hz0 hz1 hz2 rfl (by decide) ⟨g,0,none⟩ n cap (cur.toList.take n) (by rw[l1];omega) (RB.cellsAt hg1) ⟨W.heap.size,0,none⟩ 1 1 [.int .i64 7] rfl hnw (by omega) (by unfold maxLen;omega) (by omega)
   obtain⟨ad,c,rfl⟩:=owns_value ho
   exact⟨ad,c,w',hr,.inr ⟨g,cap,cur,rfl,(hgr.block g (by simp;omega) (by simp)).trans hg1,hnc,hcm,hcs,hk⟩,⟨hgr.1,hgr.2,hgr.3,hgr.4,fun k h1 _=>hgr.block k h1 (by simp)⟩⟩
theorem RB.copy{W:World}{v:Value}{n:Nat}{P:Nat→Int→Prop}(h:RB W v n P)(hn:n≤100000) :
  ∃c w',(Builtin.append_ #[25,25] 25 #[.slice (some ⟨W.heap.size,0,none⟩) 0 0,v]).run Tryz.prog (W.alloc (.cells #[] 3)) = .ok c w'∧RB w' c n P∧Below W.heap.size W w'∧(∃ad e,c = .slice ad n e)∧(∀q,c.ownBlock=some q→W.heap.size≤q):=by
 obtain⟨i0,hi0,hz0,hz1,hz2⟩:=info_parts info3
 have ho:(W.alloc (.cells #[] 3)).ownsRow W.heap.size 3 1 (.slice (some ⟨W.heap.size,0,none⟩) 0 0) 0 []:=⟨rfl,.inr ⟨W.heap.size,0,#[],rfl,Nat.le_refl _,heap_alloc_new _ _,Nat.le_refl _,Nat.zero_le _,rfl,rfl⟩⟩
 rcases h with ⟨rfl,rfl⟩|⟨g,cap,cur,rfl,hg,hnc,hcm,hcs,hk⟩
 ·have hr:(Builtin.append_ #[25,25] 25 #[.slice (some ⟨W.heap.size,0,none⟩) 0 0,.slice none 0 0]).run Tryz.prog (W.alloc (.cells #[] 3)) = .ok (.slice (some ⟨W.heap.size,0,none⟩) 0 0) (W.alloc (.cells #[] 3)):=by
   simp[Builtin.append_,run_underlying Tryz.underlying25,sizeOf,typeInfo,hi0,Builtin.lenOf,Builtin.firstCells,loadCells,loadCellsFrom,storeCells]
  exact⟨_,_,hr,RB.ofVals ho (fun k hk=>absurd hk (by omega)),below_new _ _,⟨_,_,rfl⟩,fun q e=>by cases e;exact Nat.le_refl _⟩
 ·have hlt:=(Array.getElem?_eq_some_iff.1 hg).1
  have hg1:(W.alloc (.cells #[] 3)).heap[g]?=some (.cells cur 3 (0,0)):=(Below.heap_alloc _ _ _ hlt).trans hg
  obtain⟨l1,l2,l3⟩:=RB.vals (by omega) hk
  obtain⟨v',w',hr,ho',hgr,-,hv'⟩:=run_append_own_at (P:=Tryz.prog) (W.alloc (.cells #[] 3)) W.heap.size 25 25 3 i0 _ 1 8 Tryz.underlying25 hi0 hz0 hz1 hz2 rfl (by decide) _ 0 [] ho ⟨g,0,none⟩ n cap (cur.toList.take n) (by rw[l1];omega) (RB.cellsAt hg1) l3 (by unfold maxLen;omega) (by omega) (by simp)
  rw[Nat.zero_add,List.nil_append]at ho'
  obtain⟨ad,e,rfl⟩:=owns_value ho'
  refine⟨_,w',hr,RB.ofVals ho' l2,(below_new W _).grown hgr (by simp) (fun k hk=>by cases hk;exact Nat.le_refl _),⟨ad,e,rfl⟩,fun q hq=>(ho'.lt q hq).1⟩
theorem RB.cell{W:World}{g cap n:Nat}{P:Nat→Int→Prop}(h:RB W (.slice (some ⟨g,0,none⟩) n cap) n P){k:Nat}(hk:k<n):∃z,W.cell? ⟨g,k,none⟩=some (.int .i64 z)∧P k z∧W.frozen? ⟨g,k,none⟩=false∧g<W.heap.size:=by
 rcases h with ⟨h,-⟩|⟨g',cap',cur,e,hg,h1,h2,h3,h4⟩
 ·cases h
 ·cases e
  obtain⟨z,hz,hp⟩:=h4 k hk
  obtain⟨c1,f1,lt1⟩:=cells_of (l:=cur.toList) (by simpa using hg)
  exact⟨z,c1 k _ (by simpa using hz),hp,f1 k,lt1⟩
theorem RB.set{W:World}{g cap n:Nat}{P P':Nat→Int→Prop}(h:RB W (.slice (some ⟨g,0,none⟩) n cap) n P){k:Nat}{z:Int}(hp:∀q u,q<n→q≠k→P q u→P' q u)(hz:P' k z):RB (W.setCell ⟨g,k,none⟩ (.int .i64 z)) (.slice (some ⟨g,0,none⟩) n cap) n P':=by
 rcases h with ⟨h,-⟩|⟨g',cap',cur,e,hg,h1,h2,h3,h4⟩
 ·cases h
 ·cases e
  refine .inr ⟨g,cap,_,rfl,setCell_at hg,h1,h2,by simp[h3],fun q hq=>?_⟩
  by_cases hqk:q=k
  ·subst hqk
   refine⟨z,?_,hz⟩
   rw[Array.getElem?_setIfInBounds_self_of_lt (by omega)]
  ·obtain⟨u,hu,hpu⟩:=h4 q hq
   refine⟨u,?_,hp q u hq hqk hpu⟩
   rw[Array.getElem?_setIfInBounds_ne (fun e=>hqk e.symm)]
   exact hu
theorem infoS:(Tryz.prog.info? 25).map (fun i=>(i.zero,i.size,i.bytes))=some (some (.slice none 0 0),1,24):=by kernel_rfl
theorem cell_heap{W W':World}{b i:Nat}(h:W'.heap[b]?=W.heap[b]?):W'.cell? ⟨b,i,none⟩=W.cell? ⟨b,i,none⟩:=by simp[World.cell?,h]
theorem cell_other{W:World}{b i g k:Nat}{u:Value}(h:b≠g):(W.setCell ⟨g,k,none⟩ u).cell? ⟨b,i,none⟩=W.cell? ⟨b,i,none⟩:=cell_heap (Below.heap_setCell _ _ _ _ h)
structure AT (w:World) (B gl m:Nat) (vs:Nat→Value) (ns:Nat→Nat):Prop where
 pos:0<m
 few:m≤300
 low:B≤w.heap.size∧gl<w.heap.size
 own:∀i,i<m→∀q,(vs i).ownBlock=some q→B≤q∧q≠gl∧q<w.heap.size
 ne:∀i i',i<m→i'<m→i≠i'→∀q,(vs i).ownBlock=some q→(vs i').ownBlock≠some q
 len:∀i,i<m→ns i≤100000
structure AS (w w1 W:World) (B gl m:Nat) (vs:Nat→Value) (ns:Nat→Nat) (P:Nat→Nat→Int→Prop):Prop where
 bel:Below B w W
 tab:∀i,i<m→W.cell? ⟨gl,i,none⟩=some (vs i)
 row:∀i,i<m→RB W (vs i) (ns i) (P i)
 kp:∀k,w.heap.size≤k→k<w1.heap.size→W.heap[k]?=w1.heap[k]?
 sz:w.heap.size≤w1.heap.size∧w1.heap.size≤W.heap.size
theorem RB.form{W:World}{v:Value}{n:Nat}{P:Nat→Int→Prop}(h:RB W v n P):∃ad cap,v = .slice ad n cap∧n≤cap:=by
 rcases h with ⟨rfl,rfl⟩|⟨g,cap,cur,rfl,-,h1,-⟩
 ·exact⟨_,_,rfl,Nat.le_refl _⟩
 ·exact⟨_,_,rfl,h1⟩
theorem RB.some{W:World}{ad:Option Addr}{cap n:Nat}{P:Nat→Int→Prop}(h:RB W (.slice ad n cap) n P)(hn:0<n):∃g,ad=Option.some ⟨g,0,none⟩:=by
 rcases h with ⟨-,rfl⟩|⟨g,cap,cur,e,-⟩
 ·omega
 ·cases e
  exact⟨g,rfl⟩
theorem AS.mono{w w1 W:World}{B gl m:Nat}{vs:Nat→Value}{ns:Nat→Nat}{P P':Nat→Nat→Int→Prop}(h:AS w w1 W B gl m vs ns P)(hp:∀i q z,i<m→q<ns i→P i q z→P' i q z):AS w w1 W B gl m vs ns P' :=
 ⟨h.bel,h.tab,fun i hi=>(h.row i hi).mono fun k z hk=>hp i k z hi hk,h.kp,h.sz⟩
theorem AS.app{w w1 W:World}{B gl m:Nat}{vs:Nat→Value}{ns:Nat→Nat}{P:Nat→Nat→Int→Prop}(ha:AT w B gl m vs ns)(h:AS w w1 W B gl m vs ns P){j:Nat}(hj:j<m) :
  ∃ad c w',(Builtin.append_ #[25,25] 25 #[vs j,.slice (Option.some ⟨W.heap.size,0,none⟩) 1 1]).run Tryz.prog (W.alloc (.cells #[.int .i64 7] 3)) = .ok (.slice ad (ns j+1) c) w'∧AS w w1 w' B gl m vs ns P:=by
 obtain⟨ad,c,w',hr,hrb,hg⟩:=(h.row j hj).app7 (ha.len j hj)
 have hs:=h.bel.size
 have hold:∀q,q<W.heap.size→(vs j).ownBlock≠Option.some q→w'.heap[q]?=W.heap[q]?:=fun q hq hn=>(hg.block q (by simp;omega) (fun e=>hn e.symm)).trans (Below.heap_alloc _ _ _ hq)
 have hsz:W.heap.size≤w'.heap.size:=by
  have:=hg.size
  simp at this
  omega
 have hl:=ha.low
 have hz:=h.sz
 refine⟨ad,c,w',hr,⟨(h.bel.alloc (by omega) _).grown hg (by simp;omega) (fun k hk=>(ha.own j hj k hk).1),fun i hi=>?_,fun i hi=>?_,fun k h1 h2=>?_,⟨hz.1,by omega⟩⟩⟩
 ·exact(cell_heap (hold gl (by omega) (fun e=>(ha.own j hj gl e).2.1 rfl))).trans (h.tab i hi)
 ·by_cases hij:i=j
  ·subst hij;exact hrb
  ·exact(h.row i hi).keep fun q hq hlt=>hold q hlt (ha.ne i j hi hj hij q hq)
 ·rw[hold k (by omega) (fun e=>by have:=(ha.own j hj k e).2.2;omega)]
  exact h.kp k h1 h2
theorem AS.set{w w1 W:World}{B gl m:Nat}{vs:Nat→Value}{ns:Nat→Nat}{P P':Nat→Nat→Int→Prop}(ha:AT w B gl m vs ns)(h:AS w w1 W B gl m vs ns P){j g cap k:Nat}{z:Int}(hj:j<m)(hv:vs j = .slice (Option.some ⟨g,0,none⟩) (ns j) cap)
  (hp:∀i q u,q<ns i→(i≠j∨q≠k)→P i q u→P' i q u) (hz:P' j k z):AS w w1 (W.setCell ⟨g,k,none⟩ (.int .i64 z)) B gl m vs ns P':=by
 have hown:=ha.own j hj g (by rw[hv];rfl)
 refine⟨h.bel.setCell hown.1 _,fun i hi=>(cell_other (fun e=>hown.2.1 e.symm)).trans (h.tab i hi),fun i hi=>?_,fun q h1 h2=>?_,⟨h.sz.1,by simpa using h.sz.2⟩⟩
 ·by_cases hij:i=j
  ·subst hij
   have hr:=h.row i hi
   rw[hv]at hr ⊢
   exact hr.set (fun q u hq hqk=>hp i q u hq (.inr hqk)) hz
  ·refine((h.row i hi).mono fun q u hq=>hp i q u hq (.inl hij)).keep fun q hq _=>Below.heap_setCell _ _ _ _ ?_
   intro e
   have e':q=g:=e
   rw[e']at hq
   exact ha.ne i j hi hj hij g hq (by rw[hv];rfl)
 ·exact(Below.heap_setCell _ _ _ _ (by show q≠g;omega)).trans (h.kp q h1 h2)
def Cps(w wr:World)(ns:Nat→Nat)(wv:Value)(j:Nat):Prop:=∃cs,wr.ownsRow w.heap.size 25 1 wv j cs∧(∀k c,cs[k]?=some c→RB wr c (ns k) (fun _ _=>True)∧(∀q,c.ownBlock=some q→w.heap.size≤q∧wv.ownBlock≠some q))∧Below w.heap.size w wr
theorem Cps.step{w wr:World}{ns:Nat→Nat}{wv v:Value}{j:Nat}(h:Cps w wr ns wv j)(hj:j≤300){P:Nat→Int→Prop}(hv:RB wr v (ns j) P)(hn:ns j≤100000) :
  ∃ad e w5 wv' w6,(Builtin.append_ #[25,25] 25 #[.slice (some ⟨wr.heap.size,0,none⟩) 0 0,v]).run Tryz.prog (wr.alloc (.cells #[] 3)) = .ok (.slice ad (ns j) e) w5 ∧
   (Builtin.append_ #[69,69] 69 #[wv,.slice (some ⟨w5.heap.size,0,none⟩) 1 1]).run Tryz.prog (w5.alloc (.cells #[.slice ad (ns j) e] 25)) = .ok wv' w6∧Cps w w6 ns wv' (j+1):=by
 obtain⟨cs,ho,hc,hb⟩:=h
 obtain⟨c,w5,hr5,hrb5,hb5,⟨ad,e,rfl⟩,hlow⟩:=hv.copy hn
 obtain⟨i0,hi0,hz0,hz1,hz2⟩:=info_parts infoS
 have hs:=hb.size
 have hs5:=hb5.size
 have ho5:=ownsRow_below (ownsRow_below ho hb5) (below_new w5 (.cells #[.slice ad (ns j) e] 25))
 obtain⟨wv',w6,hr6,ho6,hg6,-,hat⟩:=run_append_own_at (P:=Tryz.prog) (w5.alloc (.cells #[.slice ad (ns j) e] 25)) w.heap.size 69 69 25 i0 _ 1 24 Tryz.underlying69 hi0 hz0 hz1 hz2 rfl (by decide) wv j cs ho5 ⟨w5.heap.size,0,none⟩ 1 1 [.slice ad (ns j) e] rfl (cell_one_new _ _ _) (fun u hu=>by rw[List.mem_singleton.1 hu];rfl) (by unfold maxLen;omega) (by omega) (by simp;omega)
 have hold:∀q,q<w5.heap.size→wv.ownBlock≠some q→w6.heap[q]?=w5.heap[q]?:=fun q hq hn=>(hg6.block q (by simp;omega) (fun e=>hn e.symm)).trans (Below.heap_alloc _ _ _ hq)
 have hnew:∀q,q<w5.heap.size→wv.ownBlock≠some q→wv'.ownBlock≠some q:=fun q hq hn e=>by
  rcases hat with e'|e'
  ·exact hn (e' ▸ e)
  ·rw[e']at e
   have:=Option.some.inj e
   simp at this
   omega
 refine⟨ad,e,w5,wv',w6,hr5,hr6,cs++[.slice ad (ns j) e],ho6,fun k c hk=>?_,((below_seq hb hb5).alloc (by omega) _).grown hg6 (by simp;omega) (fun k hk=>(ho.lt k hk).1)⟩
 have hcl:cs.length=j:=by have:=ho.1;omega
 by_cases hkj:k<j
 ·rw[List.getElem?_append_left (by omega)]at hk
  obtain⟨h1,h2⟩:=hc k c hk
  refine⟨(h1.keep fun q _ hq=>hb5.block q hq).keep fun q hq hlt=>hold q hlt (h2 q hq).2,fun q hq=>⟨(h2 q hq).1,hnew q (by have:=h1.lt hq;omega) (h2 q hq).2⟩⟩
 ·have hkl:=(List.getElem?_eq_some_iff.1 hk).1
  simp at hkl
  have hke:k=j:=by omega
  subst hke
  rw[List.getElem?_append_right (by omega),hcl,Nat.sub_self]at hk
  obtain rfl:=Option.some.inj hk
  have hown:∀q,(Value.slice ad (ns k) e).ownBlock=some q→wv.ownBlock≠some q:=fun q hq e'=>by
   have h1:=hlow q hq
   have h2:=(ho.lt q e').2
   omega
  exact⟨(hrb5.mono fun _ _ _ _=>trivial).keep fun q hq hlt=>hold q hlt (hown q hq),fun q hq=>⟨by have:=hlow q hq;omega,hnew q (hrb5.lt hq) (hown q hq)⟩⟩
def P2(j k:Nat)(i q:Nat)(z:Int):Prop:=(i<j∨(i=j∧q<k))→z=-5-(i:Int)
def P3(j k:Nat)(i q:Nat)(z:Int):Prop:=(j<i∨(i=j∧k≤q))→z=-5-(i:Int)
theorem AS.drew{w w1 W:World}{B gl m:Nat}{vs:Nat→Value}{ns:Nat→Nat}{P:Nat→Nat→Int→Prop}(h:AS w w1 W B gl m vs ns P):AS w w1 W.drew B gl m vs ns P:=⟨h.bel.drew,h.tab,h.row,h.kp,h.sz⟩
set_option maxRecDepth 20000 in
set_option maxHeartbeats 8000000 in
theorem Apart_any(w:World)(B gl m:Nat)(vs:Nat→Value)(ns:Nat→Nat)(ha:AT w B gl m vs ns)(ht:∀i,i<m→w.cell? ⟨gl,i,none⟩=some (vs i))(hr:∀i,i<m→RB w (vs i) (ns i) (fun _ _=>True)) :
  Calls Tryz.prog 25 #[.slice (some ⟨gl,0,none⟩) m m] w fun r w'=>r = .returned (.bool true)∧Below B w w':=by
 have HA:Hid (AT w B gl m vs ns∧(∀i,i<m→w.cell? ⟨gl,i,none⟩=some (vs i))∧(∀i,i<m→RB w (vs i) (ns i) (fun _ _=>True))):=⟨ha,ht,hr⟩
 have hm:=ha.pos
 have hm1:=ha.few
 clear ha ht hr
 go_enter Tryz.func25,Tryz.ntmps25
 go_wp2_with fail
 go_loopw [3,12] (fun u3 i12 wr=>∃(j:Nat) (wv:Value),j≤m∧i12 = .int .i64 j∧wv=u3∧Cps w wr ns wv j) (fun _ i12 _=>m-(intOf i12).toNat)
 case atStart=>exact⟨0,_,Nat.zero_le _,rfl,rfl,[],World.ownsRow_nil _ _ _ _,(fun k c hk=>by simp at hk),Below.refl _ _⟩
 case round =>
  obtain⟨j,wv,hj,rfl,e3,hc⟩:=hrel
  subst e3
  by_cases hjm:j<m
  ·have hbw:Below w.heap.size w wr:=by obtain⟨_,_,_,h⟩:=hc;exact h
   have t0:=below_cell hbw (HA.out.2.1 j hjm)
   have hrow:=(HA.out.2.2 j hjm).keep (W':=wr) (fun q _ hq=>hbw.block q hq)
   obtain⟨av,cv,hvj,hcap⟩:=hrow.form
   obtain⟨ad,e,w5,wv',w6,hr5,hr6,hc6⟩:=hc.step (by omega) hrow (HA.out.1.len j hjm)
   rw[hvj]at t0 hr5
   have H6:Hid (Cps w w6 ns wv' (j+1)):=hc6
   clear hc hc6 hrow hbw
   have hji:(j:Int)<(m:Int):=by omega
   go_wp2_with (first|(at_builtin;refine append_known rfl (.tmp 17) (.tmp 18) 25 rfl rfl rfl hr5 ?_)|(at_builtin;refine append_known rfl (.tmp 16) (.tmp 20) 69 rfl rfl rfl hr6 ?_))
   exact⟨⟨j+1,_,by omega,by simp,rfl,H6.out⟩,by simp[intOf];omega⟩
  ·have hje:j=m:=by omega
   subst hje
   obtain⟨cs,ho,hcs,hbw⟩:=hc
   obtain⟨hcl,h|⟨gw,cw,cur,rfl,hgw,hcur,h1,h2,h3,h4⟩⟩:=ho
   ·omega
   have HC:Hid ((∀k,k<j→∃c,wr.cell? ⟨gw,k,none⟩=some c∧RB wr c (ns k) (fun _ _=>True)∧(∀q,c.ownBlock=some q→w.heap.size≤q))∧w.heap.size≤gw∧gw<wr.heap.size∧Below w.heap.size w wr):=⟨fun k hk=>by
    have hk':k<cs.length:=by omega
    obtain⟨q1,q2⟩:=hcs k cs[k] (List.getElem?_eq_getElem hk')
    refine⟨cs[k],?_,q1,fun q hq=>(q2 q hq).1⟩
    refine(cells_of (l:=cur.toList) (by simpa using hcur)).1 k _ ?_
    have e:(cur.toList.take (j*1))[k]?=some cs[k]:=by rw[h4];exact List.getElem?_eq_getElem hk'
    rw[List.getElem?_take,if_pos (by omega)]at e
    exact e,hgw,(Array.getElem?_eq_some_iff.1 hcur).1,hbw⟩
   have H2:Hid (AS w wr wr B gl j vs ns (P2 0 0)):=by
    have hl:=HA.out.1.low
    exact⟨hbw.mono (by omega),fun i hi=>below_cell hbw (HA.out.2.1 i hi),fun i hi=>((HA.out.2.2 i hi).mono fun k z _ _ h=>by omega).keep fun q _ hq=>hbw.block q hq,fun _ _ _=>rfl,⟨hbw.size,Nat.le_refl _⟩⟩
   have hjl:¬ ((j:Int)<(j:Int)):=by omega
   clear hcs hbw hcl hcur h4 hgw
   generalize wr=w1 at *
   go_wp2_with fail
   go_loopw [25] (fun i25 wr=>∃i:Nat,i≤j∧i25 = .int .i64 i∧AS w w1 wr B gl j vs ns (P2 i 0)) (fun i25 _=>j-(intOf i25).toNat)
   case atStart=>exact⟨0,Nat.zero_le _,rfl,H2.out⟩
   case round =>
    obtain⟨i,hi,rfl,has⟩:=hrel
    by_cases him:i<j
    ·obtain⟨av,cap,hvj,hcap⟩:=(has.row i him).form
     obtain⟨a7,c7,w7,hr7,has7⟩:=has.app HA.out.1 him
     have t0:=has.tab i him
     have t7:=has7.tab i him
     rw[hvj]at t0 t7 hr7
     have HS:Hid (AS w w1 w7 B gl j vs ns (P2 i 0)):=has7
     have hii:(i:Int)<(j:Int):=by omega
     have hi1:(i:Int)≤300:=by omega
     clear has has7
     go_upto_region 11 with (at_builtin;refine append_known rfl (.tmp 31) (.tmp 32) 25 rfl rfl rfl hr7 ?_)
     clear t0 hr7
     go_wp2_with fail
     go_loopw [39] (fun i39 wr=>∃k:Nat,k≤ns i∧i39 = .int .i64 k∧AS w w1 wr B gl j vs ns (P2 i k)) (fun i39 _=>ns i-(intOf i39).toNat)
     case atStart=>exact⟨0,Nat.zero_le _,rfl,HS.out⟩
     case round =>
      obtain⟨k,hk,rfl,has⟩:=hrel
      by_cases hkn:k<ns i
      ·have hrow:=has.row i him
       rw[hvj]at hrow
       obtain⟨g,rfl⟩:=hrow.some (by omega)
       have t0:=has.tab i him
       rw[hvj]at t0
       obtain⟨z,z0,-,zf,zl⟩:=hrow.cell hkn
       have HS2:Hid (AS w w1 (wr.setCell ⟨g,k,none⟩ (.int .i64 (-5-(i:Int)))) B gl j vs ns (P2 i (k+1))):=has.set HA.out.1 him hvj (fun i' q u hq hne hP h=>hP (by omega)) (fun _=>rfl)
       have hki:(k:Int)<(ns i:Int):=by omega
       have hlen:ns i≤100000:=HA.out.1.len i him
       clear has hrow
       go_wp2_with fail
       exact⟨⟨k+1,by omega,by simp,HS2.out⟩,by simp[intOf];omega⟩
      ·have hke:k=ns i:=by omega
       have HS2:Hid (AS w w1 wr B gl j vs ns (P2 (i+1) 0)):=has.mono fun i' q u hi' hq hP h=>hP (by
        by_cases e:i'=i
        ·subst e
         exact .inr ⟨rfl,by omega⟩
        ·exact .inl (by omega))
       subst hke
       have hkl:¬ ((ns i:Int)<(ns i:Int)):=by omega
       clear has
       go_wp2_with fail
       exact⟨⟨i+1,by omega,by simp,HS2.out⟩,by simp[intOf];omega⟩
    ·have hie:i=j:=by omega
     subst hie
     have H3:Hid (AS w w1 wr B gl i vs ns (P3 0 0)):=has.mono fun i' q u hi' hq hP _=>hP (.inl hi')
     clear has
     go_wp2_with fail
     go_loopw [54] (fun i54 wr=>∃j:Nat,j≤i∧i54 = .int .i64 j∧AS w w1 wr B gl i vs ns (P3 j 0)) (fun i54 _=>i-(intOf i54).toNat)
     case atStart=>exact⟨0,Nat.zero_le _,rfl,H3.out⟩
     case round =>
      obtain⟨j,hj3,rfl,has⟩:=hrel
      by_cases hjm3:j<i
      ·obtain⟨av,cap,hvj,hcap⟩:=(has.row j hjm3).form
       have t0:=has.tab j hjm3
       rw[hvj]at t0
       have HS:Hid (AS w w1 wr B gl i vs ns (P3 j 0)):=has
       have hji3:(j:Int)<(i:Int):=by omega
       have hj300:(j:Int)≤300:=by omega
       clear has
       go_wp2_with fail
       go_loopw [62] (fun i62 wr=>∃k:Nat,k≤ns j∧i62 = .int .i64 k∧AS w w1 wr B gl i vs ns (P3 j k)) (fun i62 _=>ns j-(intOf i62).toNat)
       case atStart=>exact⟨0,Nat.zero_le _,rfl,HS.out⟩
       case round =>
        obtain⟨k,hk,rfl,has⟩:=hrel
        by_cases hkn:k<ns j
        ·have hrow:=has.row j hjm3
         rw[hvj]at hrow
         obtain⟨g,rfl⟩:=hrow.some (by omega)
         have t0:=has.tab j hjm3
         rw[hvj]at t0
         obtain⟨z,z0,hz,zf,zl⟩:=hrow.cell hkn
         have hz':z=-5-(j:Int):=hz (.inr ⟨rfl,Nat.le_refl _⟩)
         subst hz'
         obtain⟨c,pc,hcr,hcq⟩:=HC.out.1 j hjm3
         obtain⟨ac,cc,rfl,hccap⟩:=hcr.form
         obtain⟨gc,rfl⟩:=hcr.some (by omega)
         obtain⟨z',r1,-,-,gcl⟩:=hcr.cell hkn
         have hgc:=hcq gc rfl
         have p0:wr.cell? ⟨gw,j,none⟩=_:=(cell_heap (has.kp gw HC.out.2.1 HC.out.2.2.1)).trans pc
         have r0:wr.cell? ⟨gc,k,none⟩=_:=(cell_heap (has.kp gc hgc gcl)).trans r1
         have hown:=HA.out.1.own j hjm3 g (by rw[hvj];rfl)
         have HN:Hid (gl≠g∧gw≠g∧gc≠g):=⟨fun e=>hown.2.1 e.symm,fun e=>by have:=HC.out.2.1;omega,by omega⟩
         have HS2:Hid (AS w w1 (wr.setCell ⟨g,k,none⟩ (.int .i64 z')) B gl i vs ns (P3 j (k+1))):=has.set HA.out.1 hjm3 hvj (fun i' q u hq hne hP h=>hP (by omega)) (fun h=>by omega)
         have hki:(k:Int)<(ns j:Int):=by omega
         have hlen:ns j≤100000:=HA.out.1.len j hjm3
         clear has hrow pc hcr hcq r1 hown hz
         go_upto_region 25 with fail
         refine wp_region_noPanic ?_
         refine wp_region_held_drew (S:=fun w'=>w'.cell? ⟨gl,j,none⟩=some (.slice (some ⟨g,0,none⟩) (ns j) cap)∧w'.cell? ⟨gw,j,none⟩=some (.slice (some ⟨gc,0,none⟩) (ns j) cc)∧w'.cell? ⟨gc,k,none⟩=some (.int .i64 z')) (by kernel_rfl) ⟨by go_simp,by go_simp,by go_simp⟩ (fun hHeld=>?_)
         refine tk (i:=0) (n:=75) (v:=?_) ?_ ?_
         rotate_left 1
         ·intro wz hSw
          obtain⟨s0,s1,s2⟩:=hSw
          first|(go_simp;done)|(go_simp;with_reducible rfl)
         simp only[ls0,ls1]
         refine tk (i:=1) (n:=76) (v:=?_) ?_ ?_
         rotate_left 1
         ·intro wz hSw
          obtain⟨s0,s1,s2⟩:=hSw
          first|(go_simp;done)|(go_simp;with_reducible rfl)
         simp only[ls0,ls1]
         refine tk (i:=2) (n:=77) (v:=?_) ?_ ?_
         rotate_left 1
         ·intro wz hSw
          obtain⟨s0,s1,s2⟩:=hSw
          first|(go_simp;done)|(go_simp;with_reducible rfl)
         simp only[ls0,ls1]
         refine tk (i:=3) (n:=78) (v:=?_) ?_ ?_
         rotate_left 1
         ·intro wz hSw
          obtain⟨s0,s1,s2⟩:=hSw
          first|(go_simp;done)|(go_simp;with_reducible rfl)
         simp only[ls0,ls1]
         refine tk (i:=4) (n:=79) (v:=?_) ?_ ?_
         rotate_left 1
         ·intro wz hSw
          obtain⟨s0,s1,s2⟩:=hSw
          first|(go_simp;done)|(go_simp;with_reducible rfl)
         simp only[ls0,ls1]
         refine tk (i:=5) (n:=80) (v:=?_) ?_ ?_
         rotate_left 1
         ·intro wz hSw
          obtain⟨s0,s1,s2⟩:=hSw
          first|(go_simp;done)|(go_simp;with_reducible rfl)
         simp only[ls0,ls1]
         refine tk (i:=6) (n:=81) (v:=?_) ?_ ?_
         rotate_left 1
         ·intro wz hSw
          obtain⟨s0,s1,s2⟩:=hSw
          first|(go_simp;done)|(go_simp;with_reducible rfl)
         simp only[ls0,ls1]
         refine tk (i:=7) (n:=82) (v:=?_) ?_ ?_
         rotate_left 1
         ·intro wz hSw
          obtain⟨s0,s1,s2⟩:=hSw
          first|(go_simp;done)|(go_simp;with_reducible rfl)
         simp only[ls0,ls1]
         refine tk (i:=8) (n:=83) (v:=?_) ?_ ?_
         rotate_left 1
         ·intro wz hSw
          obtain⟨s0,s1,s2⟩:=hSw
          first|(go_simp;done)|(go_simp;with_reducible rfl)
         simp only[ls0,ls1]
         refine tk (i:=9) (n:=84) (v:=?_) ?_ ?_
         rotate_left 1
         ·intro wz hSw
          obtain⟨s0,s1,s2⟩:=hSw
          first|(go_simp;done)|(go_simp;with_reducible rfl)
         simp only[ls0,ls1]
         refine tk (i:=10) (n:=85) (v:=?_) ?_ ?_
         rotate_left 1
         ·intro wz hSw
          obtain⟨s0,s1,s2⟩:=hSw
          first|(go_simp;done)|(go_simp;with_reducible rfl)
         simp only[ls0,ls1]
         refine tk (i:=11) (n:=86) (v:=?_) ?_ ?_
         rotate_left 1
         ·intro wz hSw
          obtain⟨s0,s1,s2⟩:=hSw
          first|(go_simp;done)|(go_simp;with_reducible rfl)
         simp only[ls0,ls1]
         refine tk (i:=12) (n:=87) (v:=?_) ?_ ?_
         rotate_left 1
         ·intro wz hSw
          obtain⟨s0,s1,s2⟩:=hSw
          first|(go_simp;done)|(go_simp;with_reducible rfl)
         simp only[ls0,ls1]
         refine wpAnyH_ready (rs:=[13]) (by kernel_rfl) (by simp) ?_
         refine AllReadyH.cons rfl (fun K hK=>?_) AllReadyH.nil
         go_simp
         refine hK.out _ _ ⟨?_,?_,?_⟩ (fun hHeld=>?_)
         ·exact(cell_other (fun e=>HN.out.1 e)).trans t0
         ·exact(cell_other (fun e=>HN.out.2.1 e)).trans p0
         ·exact(cell_other (fun e=>HN.out.2.2 e)).trans r0
         clear hK K
         try simp only[ls0,ls1]
         refine wpAnyH_done (by kernel_rfl) ?_ _
         refine NoPanic.normal ?_
         clear hHeld
         go_wp2_with fail
         exact⟨⟨k+1,by omega,by simp,HS2.out.drew⟩,by simp[intOf];omega⟩
        ·have hke:k=ns j:=by omega
         have HS2:Hid (AS w w1 wr B gl i vs ns (P3 (j+1) 0)):=has.mono fun i' q u hi' hq hP h=>hP (.inl (by omega))
         subst hke
         have hkl:¬ ((ns j:Int)<(ns j:Int)):=by omega
         clear has
         go_wp2_with fail
         exact⟨⟨j+1,by omega,by simp,HS2.out⟩,by simp[intOf];omega⟩
      ·have hje3:j=i:=by omega
       subst hje3
       have HB:Hid (Below B w wr):=has.bel
       clear has
       go_wp2_with fail
       go_ret
       exact⟨rfl,HB.out⟩
end Go.Proofs.YtccoobcggbbcialGreatDoor.Ap
namespace Go.Proofs.YtccoobcggbbcialGreatDoor
open Go.ChangeShapes Go.WideShapes Go.ChangeAt Go.RowKit
structure Pa where
 co:Int
 fr:Int
 se:Int
 c:Int
 t:Int
 d:Int
 p:Int
def Pa.val(x:Pa):Value:=.agg #[.int .i64 x.co,.int .i64 x.fr,.int .i64 x.se,.int .i64 x.c,.int .i64 x.t,.int .i64 x.d,.int .i64 x.p]
def Pa.vals(x:Pa):List Value:=[.int .i64 x.co,.int .i64 x.fr,.int .i64 x.se,.int .i64 x.c,.int .i64 x.t,.int .i64 x.d,.int .i64 x.p]
theorem Pa.len(x:Pa):x.vals.length=7:=rfl
theorem pa7_at{w:World}{l:List Pa}{b o j:Nat}{x:Pa}(h:∀q u,(l.flatMap Pa.vals)[q]?=some u→w.cell? ⟨b,o+q,none⟩=some u)(hj:l[j]?=some x):w.cell? ⟨b,o+j*7,none⟩=some (.int .i64 x.co)∧w.cell? ⟨b,o+j*7+1,none⟩=some (.int .i64 x.fr)∧w.cell? ⟨b,o+j*7+2,none⟩=some (.int .i64 x.se)∧w.cell? ⟨b,o+j*7+3,none⟩=some (.int .i64 x.c)∧w.cell? ⟨b,o+j*7+4,none⟩=some (.int .i64 x.t)∧w.cell? ⟨b,o+j*7+5,none⟩=some (.int .i64 x.d)∧w.cell? ⟨b,o+j*7+6,none⟩=some (.int .i64 x.p):=by
 have key:∀k u,k<7→x.vals[k]?=some u→w.cell? ⟨b,o+j*7+k,none⟩=some u:=fun k u hk hu=>by
  rw[Nat.add_assoc]
  exact h _ _ ((flat_at Pa.vals 7 Pa.len l j k x hj hk).trans hu)
 exact⟨key 0 _ (by omega) rfl,key 1 _ (by omega) rfl,key 2 _ (by omega) rfl,key 3 _ (by omega) rfl,key 4 _ (by omega) rfl,key 5 _ (by omega) rfl,key 6 _ (by omega) rfl⟩
def mayP(x:Pa):Bool:=within x.co 0 3 && within x.se 0 1000 && within x.c 1 10000 && within x.t 1 10000 && within x.p 0 1000
def paZ:Pa:=⟨0,0,0,0,0,0,0⟩
def wrongP(x:Pa)(ahead:List Pa):Int :=
 if mayP x=false then 3
 else if within x.fr (-1) ((ahead.length:Int)-1)=false∨(x.fr=-1∧x.se≠0) then 4
 else if within x.d x.c x.t=false∨(x.fr≠-1∧x.t≠(ahead.getD x.fr.toNat paZ).t) then 12
 else 0
def chkGo:List Pa→List Pa→Int × Int
 | _,[]=>(0,0)
 | a,x::r=>if wrongP x a≠0 then (wrongP x a,(a.length:Int)) else chkGo (a++[x]) r
def chkP(l:List Pa):Int × Int:=if within (l.length:Int) 1 8=false then (2,0) else chkGo [] l
set_option maxRecDepth 20000 in
theorem withinC_any(w:World)(n a b:Int):Calls Tryz.prog 91 #[.int .i64 n,.int .i64 a,.int .i64 b] w fun r w'=>r = .returned (.bool (within n a b))∧w'=w:=by
 go_enter Tryz.func91,Tryz.ntmps91
 go_wp2_with fail
 all_goals
  go_ret
  refine⟨?_,rfl⟩
  show Ending.returned (Value.bool _)=_
  congr 2
  unfold within
  first|(simp;done)|(simp;omega)
set_option maxRecDepth 20000 in
theorem begins_any(w:World)(x:Pa):Calls Tryz.prog 94 #[x.val] w fun r w'=>r = .returned (.bool (x.fr == -1))∧Below w.heap.size w w':=by
 obtain⟨co,fr,se,c,t,d,p⟩:=x
 have H1:=below_new w (.cells #[.int .i64 co,.int .i64 fr,.int .i64 se,.int .i64 c,.int .i64 t,.int .i64 d,.int .i64 p] 66)
 unfold Pa.val
 dsimp only
 go_enter Tryz.func94,Tryz.ntmps94
 go_wp2_with fail
 go_ret
 exact⟨rfl,H1⟩
set_option maxRecDepth 20000 in
set_option maxHeartbeats 4000000 in
theorem mayC_any(w:World)(x:Pa):Calls Tryz.prog 212 #[x.val] w fun r w'=>r = .returned (.bool (mayP x))∧Below w.heap.size w w':=by
 obtain⟨co,fr,se,c,t,d,p⟩:=x
 unfold mayP Pa.val
 dsimp only
 have H1:=below_new w (.cells #[.int .i64 co,.int .i64 fr,.int .i64 se,.int .i64 c,.int .i64 t,.int .i64 d,.int .i64 p] 66)
 rcases h0:within co 0 3 with _|_
 ·go_enter Tryz.func212,Tryz.ntmps212
  go_wp2_with (go_at_call 91;refine(withinC_any _ _ _ _).mono ?_;rintro r w1 ⟨rfl,rfl⟩;first|rw[h0]|skip)
  go_ret
  exact⟨rfl,H1⟩
 rcases h1:within se 0 1000 with _|_
 ·go_enter Tryz.func212,Tryz.ntmps212
  go_wp2_with (go_at_call 91;refine(withinC_any _ _ _ _).mono ?_;rintro r w1 ⟨rfl,rfl⟩;first|rw[h0]|rw[h1]|skip)
  go_ret
  exact⟨rfl,H1⟩
 rcases h2:within c 1 10000 with _|_
 ·go_enter Tryz.func212,Tryz.ntmps212
  go_wp2_with (go_at_call 91;refine(withinC_any _ _ _ _).mono ?_;rintro r w1 ⟨rfl,rfl⟩;first|rw[h0]|rw[h1]|rw[h2]|skip)
  go_ret
  exact⟨rfl,H1⟩
 rcases h3:within t 1 10000 with _|_
 ·go_enter Tryz.func212,Tryz.ntmps212
  go_wp2_with (go_at_call 91;refine(withinC_any _ _ _ _).mono ?_;rintro r w1 ⟨rfl,rfl⟩;first|rw[h0]|rw[h1]|rw[h2]|rw[h3]|skip)
  go_ret
  exact⟨rfl,H1⟩
 rcases h4:within p 0 1000 with _|_
 ·go_enter Tryz.func212,Tryz.ntmps212
  go_wp2_with (go_at_call 91;refine(withinC_any _ _ _ _).mono ?_;rintro r w1 ⟨rfl,rfl⟩;first|rw[h0]|rw[h1]|rw[h2]|rw[h3]|rw[h4]|skip)
  go_ret
  exact⟨rfl,H1⟩
 go_enter Tryz.func212,Tryz.ntmps212
 go_wp2_with (go_at_call 91;refine(withinC_any _ _ _ _).mono ?_;rintro r w1 ⟨rfl,rfl⟩;first|rw[h0]|rw[h1]|rw[h2]|rw[h3]|rw[h4]|skip)
 go_ret
 exact⟨rfl,H1⟩
end Go.Proofs.YtccoobcggbbcialGreatDoor
