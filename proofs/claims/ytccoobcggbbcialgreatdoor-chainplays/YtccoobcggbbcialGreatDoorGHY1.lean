import Derived.Test.YtccoobcggbbcialGreatDoorGPR
namespace Go.Proofs.YtccoobcggbbcialGreatDoor
open Go.ChangeShapes Go.WideShapes Go.ChangeAt Go.RowKit
theorem tqGHY1{P:Program}{md:Region.Mode}{ops:Array Oper}{Q:Exit→Act→World→Prop}{S:World→Prop}{i n:Nat}{oi:Oper}{v:Value}{fuel:Nat}{listed:Array Bool}{l:List Value}{ds:List Deferred}{w:World}
  (hy:∀w,S w→(execOp (Act.eval ⟨l.toArray,ds⟩) oi).run P w = .ok (.value v) w) (h:wpAnyH P md ops Q S fuel (listed.setIfInBounds i true) ⟨(l.set n v).toArray,ds⟩ w)
  (hi:ops[i]?=some oi:=by rfl) (hd:oi.dst=some n:=by rfl) (hs:(Region.noSelect ops && Region.free md ops listed i && (Region.ready md ops listed).contains i)=true:=by kernel_rfl)
  (hQ:∀c a w,Q (.panic c) (a.put oi.dst v) w→Q (.panic c) a w:=by exact fun _ _ _ h=>h) (hg:Region.wanted oi (yielded ops l.toArray)=true:=by rfl) (hS:S w:=by assumption):wpAnyH P md ops Q S (fuel+1) listed ⟨l.toArray,ds⟩ w:=by
 simp only[Bool.and_eq_true]at hs
 exact take_at hi hd hs.1.1 hs.1.2 hs.2 hQ (.inl ⟨hg,hy⟩) hS h
end Go.Proofs.YtccoobcggbbcialGreatDoor
namespace Go.Proofs.YtccoobcggbbcialGreatDoor
open Go.ChangeShapes Go.WideShapes Go.ChangeAt Go.RowKit
theorem made_nil(n:Nat):madeCells (Value.slice none 0 0).cells (n*1)=(List.replicate n (Value.slice none 0 0)).toArray:=by
 apply Array.ext
 ·simp[madeCells]
 ·intro i h1 h2
  simp[madeCells,Value.cells,Nat.mod_one]
theorem infoLn:(Tryz.prog.info? 187).map (fun i=>(i.zero,i.size,i.bytes))=some (some (Value.slice none 0 0),1,24):=by kernel_rfl
theorem infoIs:(Tryz.prog.info? 25).map (fun i=>(i.zero,i.size,i.bytes))=some (some (Value.slice none 0 0),1,24):=by kernel_rfl
theorem make_lines(n:Nat)(hn:n≤1000000)(W:World):(Instr.makeSlice 125 (.int .i64 (n:Int)) (.int .i64 (n:Int))).run Tryz.prog W = .ok (.slice (some ⟨W.heap.size,0,none⟩) n n) (W.alloc (.cells (List.replicate n (Value.slice none 0 0)).toArray 187)):=by
 obtain⟨i0,hi0,hz0,hz1,hz2⟩:=info_parts infoLn
 have h:=run_make (P:=Tryz.prog) W 125 187 i0 _ Tryz.underlying125 hi0 hz0 .i64 .i64 (n:Int) (n:Int) (by omega) (by omega) (by rw[hz2];omega) (by omega)
 rw[Int.toNat_natCast,hz1,made_nil]at h
 exact h
theorem make_rows(n:Nat)(hn:n≤1000000)(W:World):(Instr.makeSlice 69 (.int .i64 (n:Int)) (.int .i64 (n:Int))).run Tryz.prog W = .ok (.slice (some ⟨W.heap.size,0,none⟩) n n) (W.alloc (.cells (List.replicate n (Value.slice none 0 0)).toArray 25)):=by
 obtain⟨i0,hi0,hz0,hz1,hz2⟩:=info_parts infoIs
 have h:=run_make (P:=Tryz.prog) W 69 25 i0 _ Tryz.underlying69 hi0 hz0 .i64 .i64 (n:Int) (n:Int) (by omega) (by omega) (by rw[hz2];omega) (by omega)
 rw[Int.toNat_natCast,hz1,made_nil]at h
 exact h
theorem alloc4(W:World)(o0 o1 o2 o3:Obj):((((W.alloc o0).alloc o1).alloc o2).alloc o3).heap[W.heap.size]?=some o0∧((((W.alloc o0).alloc o1).alloc o2).alloc o3).heap[W.heap.size+1]?=some o1∧((((W.alloc o0).alloc o1).alloc o2).alloc o3).heap[W.heap.size+1+1]?=some o2∧((((W.alloc o0).alloc o1).alloc o2).alloc o3).heap[W.heap.size+1+1+1]?=some o3∧Below W.heap.size W ((((W.alloc o0).alloc o1).alloc o2).alloc o3):=by
 have s1:(W.alloc o0).heap.size=W.heap.size+1:=by simp
 have s2:((W.alloc o0).alloc o1).heap.size=W.heap.size+1+1:=by simp
 have s3:(((W.alloc o0).alloc o1).alloc o2).heap.size=W.heap.size+1+1+1:=by simp
 have e0:=heap_alloc_new W o0
 have e1:=heap_alloc_new (W.alloc o0) o1
 have e2:=heap_alloc_new ((W.alloc o0).alloc o1) o2
 have e3:=heap_alloc_new (((W.alloc o0).alloc o1).alloc o2) o3
 rw[s1]at e1
 rw[s2]at e2
 rw[s3]at e3
 refine⟨?_,?_,?_,e3,below_seq (below_seq (below_seq (below_new _ _) (below_new _ _)) (below_new _ _)) (below_new _ _)⟩
 ·rw[Below.heap_alloc _ _ _ (by omega),Below.heap_alloc _ _ _ (by omega),Below.heap_alloc _ _ _ (by omega)];exact e0
 ·rw[Below.heap_alloc _ _ _ (by omega),Below.heap_alloc _ _ _ (by omega)];exact e1
 ·rw[Below.heap_alloc _ _ _ (by omega)];exact e2
structure NS (A:Ad) (W:World) (k:Nat) (ev:List Value):Prop where
 bel:Below A.w.heap.size A.w W
 sc:W.heap[A.gs]?=some (.cells #[A.pv,A.wf,.slice (some ⟨A.gJ,0,none⟩) A.l.length A.l.length,.slice (some ⟨A.gM,0,none⟩) A.l.length A.l.length,.int .i64 (-1),.slice (some ⟨A.gE,0,none⟩) A.m A.m] 127 (0,0))
 jr:W.heap[A.gJ]?=some (.cells (List.replicate A.l.length (Value.slice none 0 0)).toArray 187 (0,0))
 mr:W.heap[A.gM]?=some (.cells (List.replicate A.l.length (Value.slice none 0 0)).toArray 187 (0,0))
 er:W.heap[A.gE]?=some (.cells ev.toArray 25 (0,0))
 bp:W.heap[A.gp]?=some (.cells #[A.pv] 61 (0,0))
 bt:W.heap[A.gt]?=some (.cells #[A.tv] 25 (0,0))
 le:ev.length=A.m
 ens:∀(i:Nat) (v:Value),i<k→ev[i]?=some v→EnR W v (List.replicate A.l.length (-1))
 ea:∀(i j:Nat) (u v:Value),i<j→j<k→ev[i]?=some u→ev[j]?=some v→Apt u v
 ne:A.gJ≠A.gM
 low:A.w.heap.size≤A.gs∧A.w.heap.size≤A.gJ∧A.w.heap.size≤A.gM∧A.w.heap.size≤A.gE
 lov:∀(i:Nat) (v:Value) (g:Nat),i<k→ev[i]?=some v→v.ownBlock=some g→A.w.heap.size≤g∧∀p∈A.F,p.1≠g
 fr:∀p∈A.F,W.heap[p.1]?=some p.2
 far:∀p∈A.F,p.1≠A.gs∧p.1≠A.gJ∧p.1≠A.gM∧p.1≠A.gE
 tE:A.gt≠A.gE
theorem NS.start{w0 W X:World}{gs gJ gM gE gp gt m:Nat}{pv tv:Value}{l:List Pa}{tk:List Int}{F:List (Nat × Obj)}(hB:Below w0.heap.size w0 W∧W.heap[gp]?=some (.cells #[pv] 61 (0,0))∧W.heap[gt]?=some (.cells #[tv] 25 (0,0))∧∀p∈F,W.heap[p.1]?=some p.2)(hX:Below W.heap.size W X)
  (h3:X.heap[gs]?=some (.cells #[pv,(.func (Fn.func 96) #[] #[.pointer (some ⟨gt,0,none⟩),.pointer (some ⟨gp,0,none⟩)]),.slice (some ⟨gJ,0,none⟩) l.length l.length,.slice (some ⟨gM,0,none⟩) l.length l.length,.int .i64 (-1),.slice (some ⟨gE,0,none⟩) m m] 127 (0,0))) (hJ:X.heap[gJ]?=some (.cells (List.replicate l.length (Value.slice none 0 0)).toArray 187 (0,0))) (hM:X.heap[gM]?=some (.cells (List.replicate l.length (Value.slice none 0 0)).toArray 187 (0,0))) (hE:X.heap[gE]?=some (.cells (List.replicate m (Value.slice none 0 0)).toArray 25 (0,0))) (hne:gJ≠gM) (l1:W.heap.size≤gs) (l2:W.heap.size≤gJ) (l3:W.heap.size≤gM) (l4:W.heap.size≤gE):NS ⟨w0,gs,gJ,gM,gE,gp,gt,pv,tv,l,tk,m,F⟩ X 0 (List.replicate m (Value.slice none 0 0)):=by
 obtain⟨b1,b2,b3,b4⟩:=hB
 have hs:=b1.size
 refine⟨below_seq b1 hX,h3,hJ,hM,hE,(hX.block _ (heap_lt b2)).trans b2,(hX.block _ (heap_lt b3)).trans b3,by simp,fun i v h=>absurd h (Nat.not_lt_zero _),fun i j u v _ h=>absurd h (Nat.not_lt_zero _),hne,⟨by show w0.heap.size≤gs;omega,by show w0.heap.size≤gJ;omega,by show w0.heap.size≤gM;omega,by show w0.heap.size≤gE;omega⟩,fun i v g h=>absurd h (Nat.not_lt_zero _),fun p hp=>(hX.block _ (heap_lt (b4 p hp))).trans (b4 p hp),fun p hp=>?_,?_⟩
 ·have:=heap_lt (b4 p hp)
  exact⟨by show p.1≠gs;omega,by show p.1≠gJ;omega,by show p.1≠gM;omega,by show p.1≠gE;omega⟩
 ·have:=heap_lt b3
  show gt≠gE
  omega
theorem NS.grow{A:Ad}{W W':World}{k:Nat}{ev:List Value}(h:NS A W k ev)(hb:Below W.heap.size W W'):NS A W' k ev:=by
 have kk:∀ {a:Nat} {o:Obj},W.heap[a]?=some o→W'.heap[a]?=some o:=fun ha=>(hb.block _ (heap_lt ha)).trans ha
 refine⟨below_seq h.bel hb,kk h.sc,kk h.jr,kk h.mr,kk h.er,kk h.bp,kk h.bt,h.le,fun i v hi hv=>?_,h.ea,h.ne,h.low,h.lov,fun p hp=>kk (h.fr p hp),h.far,h.tE⟩
 refine(h.ens i v hi hv).keep fun g hg=>?_
 obtain⟨c,hc⟩:=(h.ens i v hi hv).ty hg
 exact hb.block _ (heap_lt hc)
theorem NS.step{A:Ad}{W W1:World}{k g:Nat}{ev:List Value}(h:NS A W k ev)(hk:k<A.m)(hb:Below W.heap.size W W1)(hg:W.heap.size≤g)(hr:W1.heap[g]?=some (.cells (List.replicate A.l.length (Value.int .i64 (-1))).toArray 3 (0,0))):NS A (W1.setCell ⟨A.gE,k,none⟩ (.slice (some ⟨g,0,none⟩) A.l.length A.l.length)) (k+1) (ev.set k (.slice (some ⟨g,0,none⟩) A.l.length A.l.length)):=by
 have h1:=h.grow hb
 have kk:∀ {a:Nat} {o:Obj},a≠A.gE→W1.heap[a]?=some o→(W1.setCell ⟨A.gE,k,none⟩ (.slice (some ⟨g,0,none⟩) A.l.length A.l.length)).heap[a]?=some o:=fun {a o} ha h9=>by
  rw[Below.heap_setCell _ _ _ _ ha];exact h9
 have hbs:=h.bel.size
 have old:∀(i:Nat) (v:Value) (q:Nat),i<k→ev[i]?=some v→v.ownBlock=some q→q<W.heap.size:=fun i v q hi hv hq=>by
  obtain⟨c,hc⟩:=(h.ens i v hi hv).ty hq
  exact heap_lt hc
 refine⟨h1.bel.setCell h.low.2.2.2 _,kk (ty_ne h1.sc h1.er (by decide)) h1.sc,kk (ty_ne h1.jr h1.er (by decide)) h1.jr,kk (ty_ne h1.mr h1.er (by decide)) h1.mr,?_,kk (ty_ne h1.bp h1.er (by decide)) h1.bp,kk h.tE h1.bt,by rw[List.length_set];exact h.le,fun i v hi hv=>?_,fun i j u v hij hj hu hv=>?_,h.ne,h.low,fun i v q hi hv hq=>?_,fun p hp=>kk (h.far p hp).2.2.2 (h1.fr p hp),h.far,h.tE⟩
 ·rw[setCell_list h1.er]
 ·rcases set_get hv with ⟨rfl,rfl⟩|⟨hne,hv⟩
  ·refine⟨g,A.l.length,[],by simp,by simp,kk (ty_ne hr h1.er (by decide)) ?_⟩
   rw[List.append_nil,List.map_replicate]
   exact hr
  ·refine(h1.ens i v (by omega) hv).keep fun q hq=>?_
   obtain⟨c,hc⟩:=(h1.ens i v (by omega) hv).ty hq
   exact Below.heap_setCell _ _ _ _ (ty_ne hc h1.er (by decide))
 ·rcases set_get hv with ⟨rfl,rfl⟩|⟨hne,hv⟩
  ·rcases set_get hu with ⟨rfl,rfl⟩|⟨hne2,hu⟩
   ·omega
   ·intro q hq e
    have:=old i u q (by omega) hu hq
    have:g=q:=Option.some.inj e
    omega
  ·rcases set_get hu with ⟨rfl,rfl⟩|⟨hne2,hu⟩
   ·omega
   ·exact h.ea i j u v hij (by omega) hu hv
 ·rcases set_get hv with ⟨rfl,rfl⟩|⟨hne,hv⟩
  ·have e:g=q:=Option.some.inj hq
   subst e
   exact⟨by omega,fun p hp e=>by have:=heap_lt (h.fr p hp);omega⟩
  ·exact h.lov i v q (by omega) hv hq
theorem NS.done{A:Ad}{W:World}{ev:List Value}(h:NS A W A.m ev):SW A W (List.replicate A.l.length (Value.slice none 0 0)) (List.replicate A.l.length (Value.slice none 0 0)) ev (scene0 A.l.length A.m):=by
 have nilA:∀a b:Value,a=(Value.slice none 0 0)→Apt a b:=fun a b e g hg=>by rw[e]at hg;cases hg
 have rj:∀(i:Nat),(List.replicate A.l.length ([]:List Pc)).getD i []=[]:=fun i=>by
  rw[List.getD_eq_getElem?_getD,List.getElem?_replicate]
  split<;>rfl
 have lt:∀(i:Nat) (v:Value),ev[i]?=some v→i<A.m:=fun i v hv=>by have:=(List.getElem?_eq_some_iff.1 hv).1;rw[h.le]at this;exact this
 refine⟨h.bel,h.sc,h.jr,h.mr,h.er,h.bp,h.bt,by simp,by simp,h.le,fun i v hv=>.inl ⟨?_,rj i⟩,fun i v hv=>.inl ⟨?_,rj i⟩,fun i v hv=>?_,?_,?_,fun a ha b _=>nilA a b (List.mem_replicate.1 ha).2,?_,h.ne,⟨h.low.1,h.low.2.1,h.low.2.2.1⟩,fun v hv g hg=>?_,h.fr,fun p hp=>?_⟩
 ·exact(List.mem_replicate.1 (List.mem_of_getElem? hv)).2
 ·exact(List.mem_replicate.1 (List.mem_of_getElem? hv)).2
 ·have e:(scene0 A.l.length A.m).ends.getD i []=List.replicate A.l.length (-1):=by
   show(List.replicate A.m (List.replicate A.l.length (-1:Int))).getD i []=_
   rw[List.getD_eq_getElem?_getD,List.getElem?_replicate,if_pos (lt i v hv)]
   rfl
  rw[e]
  exact h.ens i v (lt i v hv) hv
 ·exact List.pairwise_replicate.2 (.inr (nilA _ _ rfl))
 ·exact List.pairwise_replicate.2 (.inr (nilA _ _ rfl))
 ·rw[List.pairwise_iff_getElem]
  intro i j hi hj hij
  exact h.ea i j _ _ hij (by rw[← h.le];exact hj) (List.getElem?_eq_getElem hi) (List.getElem?_eq_getElem hj)
 ·rcases List.mem_append.1 hv with hv|hv
  ·rcases List.mem_append.1 hv with hv|hv<;>(rw[(List.mem_replicate.1 hv).2]at hg;cases hg)
  ·obtain⟨i,hi⟩:=List.getElem?_of_mem hv
   exact(h.lov i v g (lt i v hi) hi hg).1
 ·obtain⟨f1,f2,f3,-⟩:=h.far p hp
  refine⟨f1,f2,f3,fun v hv e=>?_⟩
  rcases List.mem_append.1 hv with hv|hv
  ·rcases List.mem_append.1 hv with hv|hv<;>(rw[(List.mem_replicate.1 hv).2]at e;cases e)
  ·obtain⟨i,hi⟩:=List.getElem?_of_mem hv
   exact(h.lov i v p.1 (lt i v hi) hi e).2 p hp rfl
def NewPost(w0:World)(l:List Pa)(tk:List Int)(pv tv:Value)(gp gt m:Nat)(F:List (Nat × Obj))(r:Ending)(w':World):Prop:=∃gs gJ gM gE jv mv ev,r = .returned (.pointer (some ⟨gs,0,none⟩))∧SW ⟨w0,gs,gJ,gM,gE,gp,gt,pv,tv,l,tk,m,F⟩ w' jv mv ev (scene0 l.length m)
set_option maxRecDepth 20000 in
set_option maxHeartbeats 8000000 in
theorem newScene_any(w0 W:World)(l:List Pa)(tk:List Int)(pv tv:Value)(gp gt m:Nat)(F:List (Nat × Obj))(hB:Below w0.heap.size w0 W∧W.heap[gp]?=some (.cells #[pv] 61 (0,0))∧W.heap[gt]?=some (.cells #[tv] 25 (0,0))∧∀p∈F,W.heap[p.1]?=some p.2)(hv:RowSl Pa.vals w0 l pv)(h8:l.length≤8)(hm:m≤4000):Calls Tryz.prog 54 #[pv,.int .i64 (m:Int),(.func (Fn.func 96) #[] #[.pointer (some ⟨gt,0,none⟩),.pointer (some ⟨gp,0,none⟩)])] W (NewPost w0 l tk pv tv gp gt m F):=by
 have HB:Hid (Below w0.heap.size w0 W∧W.heap[gp]?=some (.cells #[pv] 61 (0,0))∧W.heap[gt]?=some (.cells #[tv] 25 (0,0))∧∀p∈F,W.heap[p.1]?=some p.2):=hB
 have hmkL:=make_lines l.length (by omega)
 have hmkR:=make_rows m (by omega)
 obtain⟨ad,c,rfl⟩:=hv.len
 clear hB hv
 go_enter Tryz.func54,Tryz.ntmps54
 go_upto_region 1 with fail
 go_cut [7] from 9 to 20 (fun sv X=>∃gs gJ gM gE,sv = .pointer (some ⟨gs,0,none⟩)∧NS ⟨w0,gs,gJ,gM,gE,gp,gt,.slice ad l.length c,tv,l,tk,m,F⟩ X 0 (List.replicate m (Value.slice none 0 0)))
 case first =>
  refine wp_region_noPanic ?_
  refine wp_region_held_drew (S:=fun w'=>True) (by kernel_rfl) trivial (fun hHeld=>?_)
  refine tqGHY1 (i:=0) (n:=9) (v:=?_) ?_ ?_
  rotate_left 1
  ·intro wz hSw
   clear hSw
   first|(go_simp;done)|(go_simp;with_reducible rfl)
  simp only[ls0,ls1]
  refine tqGHY1 (i:=1) (n:=10) (v:=?_) ?_ ?_
  rotate_left 1
  ·intro wz hSw
   clear hSw
   first|(go_simp;done)|(go_simp;with_reducible rfl)
  simp only[ls0,ls1]
  refine tqGHY1 (i:=2) (n:=11) (v:=?_) ?_ ?_
  rotate_left 1
  ·intro wz hSw
   clear hSw
   first|(go_simp;done)|(go_simp;with_reducible rfl)
  simp only[ls0,ls1]
  refine tqGHY1 (i:=3) (n:=12) (v:=?_) ?_ ?_
  rotate_left 1
  ·intro wz hSw
   clear hSw
   first|(go_simp;done)|(go_simp;with_reducible rfl)
  simp only[ls0,ls1]
  refine tqGHY1 (i:=5) (n:=14) (v:=?_) ?_ ?_
  rotate_left 1
  ·intro wz hSw
   clear hSw
   first|(go_simp;done)|(go_simp;with_reducible rfl)
  simp only[ls0,ls1]
  refine tqGHY1 (i:=6) (n:=15) (v:=?_) ?_ ?_
  rotate_left 1
  ·intro wz hSw
   clear hSw
   first|(go_simp;done)|(go_simp;with_reducible rfl)
  simp only[ls0,ls1]
  refine tqGHY1 (i:=8) (n:=17) (v:=?_) ?_ ?_
  rotate_left 1
  ·intro wz hSw
   clear hSw
   first|(go_simp;done)|(go_simp;with_reducible rfl)
  simp only[ls0,ls1]
  refine wpAnyH_ready (rs:=[4,7,9]) (by kernel_rfl) (by simp) ?_
  refine(AllReadyH.cons rfl (fun K hK=>?_) (AllReadyH.cons rfl (fun K hK=>?_) (AllReadyH.cons rfl (fun K hK=>?_) AllReadyH.nil)))
  ·skip
   go_simp
   refine hK.out _ _ trivial (fun hHeld=>?_)
   clear hK K
   try simp only[ls0,ls1]
   refine wpAnyH_ready (rs:=[7,9]) (by kernel_rfl) (by simp) ?_
   refine(AllReadyH.cons rfl (fun K hK=>?_) (AllReadyH.cons rfl (fun K hK=>?_) AllReadyH.nil))
   ·skip
    go_simp
    refine hK.out _ _ trivial (fun hHeld=>?_)
    clear hK K
    try simp only[ls0,ls1]
    refine wpAnyH_ready (rs:=[9]) (by kernel_rfl) (by simp) ?_
    refine(AllReadyH.cons rfl (fun K hK=>?_) AllReadyH.nil)
    go_simp
    refine hK.out _ _ trivial (fun hHeld=>?_)
    clear hK K
    try simp only[ls0,ls1]
    refine tqGHY1 (i:=10) (n:=19) (v:=?_) ?_ ?_
    rotate_left 1
    ·intro wz hSw
     clear hSw
     first|(go_simp;done)|(go_simp;with_reducible rfl)
    simp only[ls0,ls1]
    refine wpAnyH_ready (rs:=[11]) (by kernel_rfl) (by simp) ?_
    refine AllReadyH.cons rfl (fun K hK=>?_) AllReadyH.nil
    go_simp
    refine hK.out _ _ trivial (fun hHeld=>?_)
    clear hK K
    try simp only[ls0,ls1]
    refine tqGHY1 (i:=12) (n:=7) (v:=?_) ?_ ?_
    rotate_left 1
    ·intro wz hSw
     clear hSw
     first|(go_simp;done)|(go_simp;with_reducible rfl)
    simp only[ls0,ls1]
    refine wpAnyH_done (by kernel_rfl) ?_ _
    refine NoPanic.normal ?_
    clear hHeld
    go_wp2_with fail
    go_meet
    case rel =>
     obtain⟨a0,a1,a2,a3,ab⟩:=alloc4 W (.cells (List.replicate l.length (Value.slice none 0 0)).toArray 187) (.cells (List.replicate l.length (Value.slice none 0 0)).toArray 187) (.cells (List.replicate m (Value.slice none 0 0)).toArray 25) (.cells #[.slice ad l.length c,(.func (Fn.func 96) #[] #[.pointer (some ⟨gt,0,none⟩),.pointer (some ⟨gp,0,none⟩)]),.slice (some ⟨W.heap.size,0,none⟩) l.length l.length,.slice (some ⟨W.heap.size+1,0,none⟩) l.length l.length,.int .i64 (-1),.slice (some ⟨W.heap.size+1+1,0,none⟩) m m] 127)
     exact⟨W.heap.size+1+1+1,W.heap.size,W.heap.size+1,W.heap.size+1+1,rfl,NS.start (W:=W) HB.out ab.drew a3 a0 a1 a2 (by omega) (by omega) (by omega) (by omega) (by omega)⟩
   ·skip
    go_simp
    refine hK.out _ _ trivial (fun hHeld=>?_)
    clear hK K
    try simp only[ls0,ls1]
    refine wpAnyH_ready (rs:=[7]) (by kernel_rfl) (by simp) ?_
    refine(AllReadyH.cons rfl (fun K hK=>?_) AllReadyH.nil)
    go_simp
    refine hK.out _ _ trivial (fun hHeld=>?_)
    clear hK K
    try simp only[ls0,ls1]
    refine tqGHY1 (i:=10) (n:=19) (v:=?_) ?_ ?_
    rotate_left 1
    ·intro wz hSw
     clear hSw
     first|(go_simp;done)|(go_simp;with_reducible rfl)
    simp only[ls0,ls1]
    refine wpAnyH_ready (rs:=[11]) (by kernel_rfl) (by simp) ?_
    refine AllReadyH.cons rfl (fun K hK=>?_) AllReadyH.nil
    go_simp
    refine hK.out _ _ trivial (fun hHeld=>?_)
    clear hK K
    try simp only[ls0,ls1]
    refine tqGHY1 (i:=12) (n:=7) (v:=?_) ?_ ?_
    rotate_left 1
    ·intro wz hSw
     clear hSw
     first|(go_simp;done)|(go_simp;with_reducible rfl)
    simp only[ls0,ls1]
    refine wpAnyH_done (by kernel_rfl) ?_ _
    refine NoPanic.normal ?_
    clear hHeld
    go_wp2_with fail
    go_meet
    case rel =>
     obtain⟨a0,a1,a2,a3,ab⟩:=alloc4 W (.cells (List.replicate l.length (Value.slice none 0 0)).toArray 187) (.cells (List.replicate m (Value.slice none 0 0)).toArray 25) (.cells (List.replicate l.length (Value.slice none 0 0)).toArray 187) (.cells #[.slice ad l.length c,(.func (Fn.func 96) #[] #[.pointer (some ⟨gt,0,none⟩),.pointer (some ⟨gp,0,none⟩)]),.slice (some ⟨W.heap.size,0,none⟩) l.length l.length,.slice (some ⟨W.heap.size+1+1,0,none⟩) l.length l.length,.int .i64 (-1),.slice (some ⟨W.heap.size+1,0,none⟩) m m] 127)
     exact⟨W.heap.size+1+1+1,W.heap.size,W.heap.size+1+1,W.heap.size+1,rfl,NS.start (W:=W) HB.out ab.drew a3 a0 a2 a1 (by omega) (by omega) (by omega) (by omega) (by omega)⟩
  ·skip
   go_simp
   refine hK.out _ _ trivial (fun hHeld=>?_)
   clear hK K
   try simp only[ls0,ls1]
   refine wpAnyH_ready (rs:=[4,9]) (by kernel_rfl) (by simp) ?_
   refine(AllReadyH.cons rfl (fun K hK=>?_) (AllReadyH.cons rfl (fun K hK=>?_) AllReadyH.nil))
   ·skip
    go_simp
    refine hK.out _ _ trivial (fun hHeld=>?_)
    clear hK K
    try simp only[ls0,ls1]
    refine wpAnyH_ready (rs:=[9]) (by kernel_rfl) (by simp) ?_
    refine(AllReadyH.cons rfl (fun K hK=>?_) AllReadyH.nil)
    go_simp
    refine hK.out _ _ trivial (fun hHeld=>?_)
    clear hK K
    try simp only[ls0,ls1]
    refine tqGHY1 (i:=10) (n:=19) (v:=?_) ?_ ?_
    rotate_left 1
    ·intro wz hSw
     clear hSw
     first|(go_simp;done)|(go_simp;with_reducible rfl)
    simp only[ls0,ls1]
    refine wpAnyH_ready (rs:=[11]) (by kernel_rfl) (by simp) ?_
    refine AllReadyH.cons rfl (fun K hK=>?_) AllReadyH.nil
    go_simp
    refine hK.out _ _ trivial (fun hHeld=>?_)
    clear hK K
    try simp only[ls0,ls1]
    refine tqGHY1 (i:=12) (n:=7) (v:=?_) ?_ ?_
    rotate_left 1
    ·intro wz hSw
     clear hSw
     first|(go_simp;done)|(go_simp;with_reducible rfl)
    simp only[ls0,ls1]
    refine wpAnyH_done (by kernel_rfl) ?_ _
    refine NoPanic.normal ?_
    clear hHeld
    go_wp2_with fail
    go_meet
    case rel =>
     obtain⟨a0,a1,a2,a3,ab⟩:=alloc4 W (.cells (List.replicate l.length (Value.slice none 0 0)).toArray 187) (.cells (List.replicate l.length (Value.slice none 0 0)).toArray 187) (.cells (List.replicate m (Value.slice none 0 0)).toArray 25) (.cells #[.slice ad l.length c,(.func (Fn.func 96) #[] #[.pointer (some ⟨gt,0,none⟩),.pointer (some ⟨gp,0,none⟩)]),.slice (some ⟨W.heap.size+1,0,none⟩) l.length l.length,.slice (some ⟨W.heap.size,0,none⟩) l.length l.length,.int .i64 (-1),.slice (some ⟨W.heap.size+1+1,0,none⟩) m m] 127)
     exact⟨W.heap.size+1+1+1,W.heap.size+1,W.heap.size,W.heap.size+1+1,rfl,NS.start (W:=W) HB.out ab.drew a3 a1 a0 a2 (by omega) (by omega) (by omega) (by omega) (by omega)⟩
   ·skip
    go_simp
    refine hK.out _ _ trivial (fun hHeld=>?_)
    clear hK K
    try simp only[ls0,ls1]
    refine wpAnyH_ready (rs:=[4]) (by kernel_rfl) (by simp) ?_
    refine(AllReadyH.cons rfl (fun K hK=>?_) AllReadyH.nil)
    go_simp
    refine hK.out _ _ trivial (fun hHeld=>?_)
    clear hK K
    try simp only[ls0,ls1]
    refine tqGHY1 (i:=10) (n:=19) (v:=?_) ?_ ?_
    rotate_left 1
    ·intro wz hSw
     clear hSw
     first|(go_simp;done)|(go_simp;with_reducible rfl)
    simp only[ls0,ls1]
    refine wpAnyH_ready (rs:=[11]) (by kernel_rfl) (by simp) ?_
    refine AllReadyH.cons rfl (fun K hK=>?_) AllReadyH.nil
    go_simp
    refine hK.out _ _ trivial (fun hHeld=>?_)
    clear hK K
    try simp only[ls0,ls1]
    refine tqGHY1 (i:=12) (n:=7) (v:=?_) ?_ ?_
    rotate_left 1
    ·intro wz hSw
     clear hSw
     first|(go_simp;done)|(go_simp;with_reducible rfl)
    simp only[ls0,ls1]
    refine wpAnyH_done (by kernel_rfl) ?_ _
    refine NoPanic.normal ?_
    clear hHeld
    go_wp2_with fail
    go_meet
    case rel =>
     obtain⟨a0,a1,a2,a3,ab⟩:=alloc4 W (.cells (List.replicate l.length (Value.slice none 0 0)).toArray 187) (.cells (List.replicate m (Value.slice none 0 0)).toArray 25) (.cells (List.replicate l.length (Value.slice none 0 0)).toArray 187) (.cells #[.slice ad l.length c,(.func (Fn.func 96) #[] #[.pointer (some ⟨gt,0,none⟩),.pointer (some ⟨gp,0,none⟩)]),.slice (some ⟨W.heap.size+1+1,0,none⟩) l.length l.length,.slice (some ⟨W.heap.size,0,none⟩) l.length l.length,.int .i64 (-1),.slice (some ⟨W.heap.size+1,0,none⟩) m m] 127)
     exact⟨W.heap.size+1+1+1,W.heap.size+1+1,W.heap.size,W.heap.size+1,rfl,NS.start (W:=W) HB.out ab.drew a3 a2 a0 a1 (by omega) (by omega) (by omega) (by omega) (by omega)⟩
  ·skip
   go_simp
   refine hK.out _ _ trivial (fun hHeld=>?_)
   clear hK K
   try simp only[ls0,ls1]
   refine wpAnyH_ready (rs:=[4,7]) (by kernel_rfl) (by simp) ?_
   refine(AllReadyH.cons rfl (fun K hK=>?_) (AllReadyH.cons rfl (fun K hK=>?_) AllReadyH.nil))
   ·skip
    go_simp
    refine hK.out _ _ trivial (fun hHeld=>?_)
    clear hK K
    try simp only[ls0,ls1]
    refine wpAnyH_ready (rs:=[7]) (by kernel_rfl) (by simp) ?_
    refine(AllReadyH.cons rfl (fun K hK=>?_) AllReadyH.nil)
    go_simp
    refine hK.out _ _ trivial (fun hHeld=>?_)
    clear hK K
    try simp only[ls0,ls1]
    refine tqGHY1 (i:=10) (n:=19) (v:=?_) ?_ ?_
    rotate_left 1
    ·intro wz hSw
     clear hSw
     first|(go_simp;done)|(go_simp;with_reducible rfl)
    simp only[ls0,ls1]
    refine wpAnyH_ready (rs:=[11]) (by kernel_rfl) (by simp) ?_
    refine AllReadyH.cons rfl (fun K hK=>?_) AllReadyH.nil
    go_simp
    refine hK.out _ _ trivial (fun hHeld=>?_)
    clear hK K
    try simp only[ls0,ls1]
    refine tqGHY1 (i:=12) (n:=7) (v:=?_) ?_ ?_
    rotate_left 1
    ·intro wz hSw
     clear hSw
     first|(go_simp;done)|(go_simp;with_reducible rfl)
    simp only[ls0,ls1]
    refine wpAnyH_done (by kernel_rfl) ?_ _
    refine NoPanic.normal ?_
    clear hHeld
    go_wp2_with fail
    go_meet
    case rel =>
     obtain⟨a0,a1,a2,a3,ab⟩:=alloc4 W (.cells (List.replicate m (Value.slice none 0 0)).toArray 25) (.cells (List.replicate l.length (Value.slice none 0 0)).toArray 187) (.cells (List.replicate l.length (Value.slice none 0 0)).toArray 187) (.cells #[.slice ad l.length c,(.func (Fn.func 96) #[] #[.pointer (some ⟨gt,0,none⟩),.pointer (some ⟨gp,0,none⟩)]),.slice (some ⟨W.heap.size+1,0,none⟩) l.length l.length,.slice (some ⟨W.heap.size+1+1,0,none⟩) l.length l.length,.int .i64 (-1),.slice (some ⟨W.heap.size,0,none⟩) m m] 127)
     exact⟨W.heap.size+1+1+1,W.heap.size+1,W.heap.size+1+1,W.heap.size,rfl,NS.start (W:=W) HB.out ab.drew a3 a1 a2 a0 (by omega) (by omega) (by omega) (by omega) (by omega)⟩
   ·skip
    go_simp
    refine hK.out _ _ trivial (fun hHeld=>?_)
    clear hK K
    try simp only[ls0,ls1]
    refine wpAnyH_ready (rs:=[4]) (by kernel_rfl) (by simp) ?_
    refine(AllReadyH.cons rfl (fun K hK=>?_) AllReadyH.nil)
    go_simp
    refine hK.out _ _ trivial (fun hHeld=>?_)
    clear hK K
    try simp only[ls0,ls1]
    refine tqGHY1 (i:=10) (n:=19) (v:=?_) ?_ ?_
    rotate_left 1
    ·intro wz hSw
     clear hSw
     first|(go_simp;done)|(go_simp;with_reducible rfl)
    simp only[ls0,ls1]
    refine wpAnyH_ready (rs:=[11]) (by kernel_rfl) (by simp) ?_
    refine AllReadyH.cons rfl (fun K hK=>?_) AllReadyH.nil
    go_simp
    refine hK.out _ _ trivial (fun hHeld=>?_)
    clear hK K
    try simp only[ls0,ls1]
    refine tqGHY1 (i:=12) (n:=7) (v:=?_) ?_ ?_
    rotate_left 1
    ·intro wz hSw
     clear hSw
     first|(go_simp;done)|(go_simp;with_reducible rfl)
    simp only[ls0,ls1]
    refine wpAnyH_done (by kernel_rfl) ?_ _
    refine NoPanic.normal ?_
    clear hHeld
    go_wp2_with fail
    go_meet
    case rel =>
     obtain⟨a0,a1,a2,a3,ab⟩:=alloc4 W (.cells (List.replicate m (Value.slice none 0 0)).toArray 25) (.cells (List.replicate l.length (Value.slice none 0 0)).toArray 187) (.cells (List.replicate l.length (Value.slice none 0 0)).toArray 187) (.cells #[.slice ad l.length c,(.func (Fn.func 96) #[] #[.pointer (some ⟨gt,0,none⟩),.pointer (some ⟨gp,0,none⟩)]),.slice (some ⟨W.heap.size+1+1,0,none⟩) l.length l.length,.slice (some ⟨W.heap.size+1,0,none⟩) l.length l.length,.int .i64 (-1),.slice (some ⟨W.heap.size,0,none⟩) m m] 127)
     exact⟨W.heap.size+1+1+1,W.heap.size+1+1,W.heap.size+1,W.heap.size,rfl,NS.start (W:=W) HB.out ab.drew a3 a2 a1 a0 (by omega) (by omega) (by omega) (by omega) (by omega)⟩
 case rest =>
  obtain⟨gs,gJ,gM,gE,rfl,hN⟩:=hcut
  have HN0:Hid (∃ev,NS ⟨w0,gs,gJ,gM,gE,gp,gt,.slice ad l.length c,tv,l,tk,m,F⟩ wc 0 ev):=⟨_,hN⟩
  obtain⟨cs,-,lg⟩:=cells_of (l:=[_,_,_,_,_,_]) hN.sc
  have c5:=cs 5 _ rfl
  dsimp only at c5 lg
  clear hmkL hmkR hN HB cs
  go_wp2_with fail
  clear c5 lg
  go_loopw [26] (fun iv wr=>∃k:Nat,k≤m∧iv = .int .i64 (k:Int)∧Hid (∃ev,NS ⟨w0,gs,gJ,gM,gE,gp,gt,.slice ad l.length c,tv,l,tk,m,F⟩ wr k ev)) (fun iv _=>m-(intOf iv).toNat)
  case atStart=>exact⟨0,Nat.zero_le _,rfl,HN0⟩
  case round =>
   obtain⟨k,hk,rfl,HX⟩:=hrel
   clear HN0
   by_cases hkm:k<m
   rotate_left 1
   ·have hke:k=m:=by omega
    subst hke
    have hki:¬ ((k:Nat):Int)<(k:Int):=by omega
    go_wp2_with fail
    go_ret
    obtain⟨ev,hN⟩:=HX.out
    exact⟨gs,gJ,gM,gE,_,_,ev,rfl,NS.done hN⟩
   obtain⟨ev,hN⟩:=HX.out
   have HN:Hid (NS ⟨w0,gs,gJ,gM,gE,gp,gt,.slice ad l.length c,tv,l,tk,m,F⟩ wr k ev):=hN
   have hki:(k:Int)<(m:Int):=by omega
   obtain⟨cs,-,lg⟩:=cells_of (l:=[_,_,_,_,_,_]) hN.sc
   have c5:=cs 5 _ rfl
   obtain⟨vo,hvo⟩:∃vo,ev[k]?=some vo:=⟨_,List.getElem?_eq_getElem (by rw[hN.le];exact hkm)⟩
   have HVO:Hid (ev[k]?=some vo):=hvo
   dsimp only at c5 lg
   clear hN HX cs hvo
   go_upto_region 5 with fail
   refine wp_region_noPanic ?_
   refine wp_region_held_drew (S:=fun w'=>w'.cell? ⟨gs,5,none⟩=some (.slice (some ⟨gE,0,none⟩) m m)) (by kernel_rfl) c5 (fun hHeld=>?_)
   refine tqGHY1 (i:=0) (n:=29) (v:=?_) ?_ ?_
   rotate_left 1
   ·intro wz hSw
    have s0:=hSw
    first|(go_simp;done)|(go_simp;with_reducible rfl)
   simp only[ls0,ls1]
   refine tqGHY1 (i:=1) (n:=30) (v:=?_) ?_ ?_
   rotate_left 1
   ·intro wz hSw
    have s0:=hSw
    first|(go_simp;done)|(go_simp;with_reducible rfl)
   simp only[ls0,ls1]
   refine tqGHY1 (i:=2) (n:=31) (v:=?_) ?_ ?_
   rotate_left 1
   ·intro wz hSw
    have s0:=hSw
    first|(go_simp;done)|(go_simp;with_reducible rfl)
   simp only[ls0,ls1]
   refine tqGHY1 (i:=3) (n:=32) (v:=?_) ?_ ?_
   rotate_left 1
   ·intro wz hSw
    have s0:=hSw
    first|(go_simp;done)|(go_simp;with_reducible rfl)
   simp only[ls0,ls1]
   refine tqGHY1 (i:=4) (n:=33) (v:=?_) ?_ ?_
   rotate_left 1
   ·intro wz hSw
    have s0:=hSw
    first|(go_simp;done)|(go_simp;with_reducible rfl)
   simp only[ls0,ls1]
   refine tqGHY1 (i:=6) (n:=35) (v:=?_) ?_ ?_
   rotate_left 1
   ·intro wz hSw
    have s0:=hSw
    first|(go_simp;done)|(go_simp;with_reducible rfl)
   simp only[ls0,ls1]
   refine tqGHY1 (i:=7) (n:=36) (v:=?_) ?_ ?_
   rotate_left 1
   ·intro wz hSw
    have s0:=hSw
    first|(go_simp;done)|(go_simp;with_reducible rfl)
   simp only[ls0,ls1]
   refine wpAnyH_ready (rs:=[5]) (by kernel_rfl) (by simp) ?_
   refine AllReadyH.cons rfl (fun K hK=>?_) AllReadyH.nil
   go_simp
   have HN5:Hid (NS ⟨w0,gs,gJ,gM,gE,gp,gt,.slice ad l.length c,tv,l,tk,m,F⟩ ((wr.alloc (.cells #[.int .i64 (-1)] 3)).drew) k ev):=HN.out.grow (below_new _ _).drew
   have f5:((wr.alloc (.cells #[.int .i64 (-1)] 3)).drew).heap[wr.heap.size]?=some (.cells #[.int .i64 (-1)] 3 (0,0)):=heap_alloc_new wr _
   generalize (wr.alloc (.cells #[.int .i64 (-1)] 3)).drew=w5 at HN5 f5 ⊢
   generalize wr.heap.size=ge at f5 ⊢
   refine hK.out _ _ ((cells_of (l:=[_,_,_,_,_,_]) HN5.out.sc).1 5 _ rfl) (fun hHeld=>?_)
   clear hK K
   try simp only[ls0,ls1]
   refine wpAnyH_ready (rs:=[8]) (by kernel_rfl) (by simp) ?_
   refine AllReadyH.cons rfl (fun K hK=>?_) AllReadyH.nil
   go_simp
   go_wp2_with (go_at_call 95;refine(Repeat_any w5 ge l.length f5 (by omega)).mono ?_;rintro r w8 ⟨g,rfl,hg8,hr8,hb8⟩)
   have HN8:Hid (NS ⟨w0,gs,gJ,gM,gE,gp,gt,.slice ad l.length c,tv,l,tk,m,F⟩ w8 k ev):=HN5.out.grow hb8
   have HZ:Hid (NS ⟨w0,gs,gJ,gM,gE,gp,gt,.slice ad l.length c,tv,l,tk,m,F⟩ (w8.setCell ⟨gE,k,none⟩ (.slice (some ⟨g,0,none⟩) l.length l.length)) (k+1) (ev.set k (.slice (some ⟨g,0,none⟩) l.length l.length))):=HN5.out.step hkm hb8 hg8 hr8
   refine hK.out _ _ ((cells_of (l:=[_,_,_,_,_,_]) HN8.out.sc).1 5 _ rfl) (fun hHeld=>?_)
   clear hb8 hr8
   clear hK K
   try simp only[ls0,ls1]
   refine tqGHY1 (i:=9) (n:=38) (v:=?_) ?_ ?_
   rotate_left 1
   ·intro wz hSw
    have s0:=hSw
    first|(go_simp;done)|(go_simp;with_reducible rfl)
   simp only[ls0,ls1]
   refine wpAnyH_ready (rs:=[10]) (by kernel_rfl) (by simp) ?_
   refine AllReadyH.cons rfl (fun K hK=>?_) AllReadyH.nil
   go_simp
   obtain⟨es,ef,el⟩:=cells_of HN8.out.er
   have t0:=es k _ HVO.out
   have tf:=ef k
   dsimp only at t0 tf el
   go_simp
   refine hK.out _ _ ((cells_of (l:=[_,_,_,_,_,_]) HZ.out.sc).1 5 _ rfl) (fun hHeld=>?_)
   clear es ef t0 tf el
   clear hK K
   try simp only[ls0,ls1]
   refine wpAnyH_done (by kernel_rfl) ?_ _
   refine NoPanic.normal ?_
   clear hHeld
   go_wp2_with fail
   exact⟨⟨k+1,by omega,by simp,⟨_,HZ.out⟩⟩,by simp[intOf];omega⟩
theorem works_any(W:World)(a1 a2:Option Addr)(n1 c1 n2 c2:Nat):Calls Tryz.prog 55 #[.slice a1 n1 c1,.slice a2 n2 c2] W fun r w'=>r = .returned (.func (Fn.func 96) #[] #[.pointer (some ⟨W.heap.size+1,0,none⟩),.pointer (some ⟨W.heap.size,0,none⟩)])∧w'=(W.alloc (.cells #[.slice a1 n1 c1] 61)).alloc (.cells #[.slice a2 n2 c2] 25):=by
 go_enter Tryz.func55,Tryz.ntmps55
 go_wp2_with fail
 go_ret
 exact⟨rfl,rfl⟩
end Go.Proofs.YtccoobcggbbcialGreatDoor
