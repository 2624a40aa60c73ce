import Derived.Test.YtccoobcggbbcialGreatDoorGHU0
import Derived.Test.YtccoobcggbbcialGreatDoorGXR
import Derived.OwnWalk
namespace Go.Proofs.YtccoobcggbbcialGreatDoor
open Go.ChangeShapes Go.WideShapes Go.ChangeAt Go.RowKit
theorem tqGLN0{P:Program}{md:Region.Mode}{ops:Array Oper}{Q:Exit→Act→World→Prop}{S:World→Prop}{i n:Nat}{oi:Oper}{v:Value}{fuel:Nat}{listed:Array Bool}{l:List Value}{ds:List Deferred}{w:World}
  (hy:∀w,S w→(execOp (Act.eval ⟨l.toArray,ds⟩) oi).run P w = .ok (.value v) w) (h:wpAnyH P md ops Q S fuel (listed.setIfInBounds i true) ⟨(l.set n v).toArray,ds⟩ w)
  (hi:ops[i]?=some oi:=by rfl) (hd:oi.dst=some n:=by rfl) (hs:(Region.noSelect ops && Region.free md ops listed i && (Region.ready md ops listed).contains i)=true:=by kernel_rfl)
  (hQ:∀c a w,Q (.panic c) (a.put oi.dst v) w→Q (.panic c) a w:=by exact fun _ _ _ h=>h) (hg:Region.wanted oi (yielded ops l.toArray)=true:=by rfl) (hS:S w:=by assumption):wpAnyH P md ops Q S (fuel+1) listed ⟨l.toArray,ds⟩ w:=by
 simp only[Bool.and_eq_true]at hs
 exact take_at hi hd hs.1.1 hs.1.2 hs.2 hQ (.inl ⟨hg,hy⟩) hS h
end Go.Proofs.YtccoobcggbbcialGreatDoor
namespace Go.Proofs.YtccoobcggbbcialGreatDoor
open Go.ChangeShapes Go.WideShapes Go.ChangeAt Go.RowKit
theorem infoCo:(Tryz.prog.info? 49).map (fun i=>(i.zero,i.size,i.bytes))=some (some (.agg #[.int .i64 0,.int .i64 0]),2,16):=by kernel_rfl
theorem flatOneCo{l:List Co}{u:Value}(h:u∈l.flatMap Co.vals):u.oneCell'=true:=by
 obtain⟨x,h⟩:=flat_mem h
 exact Co.one h
def marksCo(m:Co):List Value:=[.int .i64 m.k,.int .i64 m.a,.int .i64 m.k,.int .i64 m.a,.int .i64 m.k,.int .i64 m.a]
theorem marksCo_eq(m:Co) : [m,m,m].flatMap Co.vals=marksCo m:=rfl
theorem lentOfCo{w:World}{B g:Nat}{l:List Co}{m:Co}(h:w.ownsRow B 49 2 (.slice (some ⟨g,0,none⟩) (l.length+3) (l.length+3)) (l.length+3) (l.flatMap Co.vals++marksCo m)):Lent Co.vals w l m (.slice (some ⟨g,0,none⟩) l.length (l.length+3)):=by
 refine⟨g,0,l.length+3,rfl,Nat.le_refl _,fun q u hq=>?_⟩
 rw[List.flatMap_append,marksCo_eq]at hq
 have hql:=(List.getElem?_eq_some_iff.1 hq).1
 rw[List.length_append,flat_length Co.vals 2 Co.len]at hql
 have h9:(marksCo m).length=6:=rfl
 rw[Nat.zero_add]
 exact(h.cellAt q (by omega)).trans hq
theorem makeCo(W:World)(n g:Nat)(hn:n≤100003)(hg:W.heap.size=g):∃w1,(Instr.makeSlice 24 (.int .i64 0) (.int .i64 ((n:Int)+3))).run Tryz.prog W = .ok (.slice (some ⟨g,0,none⟩) 0 (n+3)) w1∧w1.ownsRow g 49 2 (.slice (some ⟨g,0,none⟩) 0 (n+3)) 0 []∧Below g W w1∧g<w1.heap.size:=by
 subst hg
 obtain⟨i0,hi0,hz0,hz1,hz2⟩:=info_parts infoCo
 obtain⟨w1,hrun,hown,hgr⟩:=run_make_own (P:=Tryz.prog) W W.heap.size 24 49 i0 _ 2 Tryz.underlying24 hi0 hz0 hz1 .i64 .i64 (n+3) (by rw[hz2];omega) (by unfold maxLen;omega) (Nat.le_refl _)
 exact⟨w1,hrun,hown,(Below.refl _ W).grown hgr (Nat.le_refl _) (by intro k hk;cases hk),(hown.lt _ rfl).2⟩
theorem marksCellsCo(W:World)(m:Co)(g:Nat)(hg:W.heap.size=g)(q:Nat)(u:Value)(hq:(marksCo m)[q]?=some u):(W.alloc (.cells #[.int .i64 m.k,.int .i64 m.a,.int .i64 m.k,.int .i64 m.a,.int .i64 m.k,.int .i64 m.a] 49)).cell? ((⟨g,0,none⟩:Addr).add q)=some u:=by
 subst hg
 rw[Addr.add_lit]
 have:=(cells_of (l:=marksCo m) (heap_alloc_new W (.cells #[.int .i64 m.k,.int .i64 m.a,.int .i64 m.k,.int .i64 m.a,.int .i64 m.k,.int .i64 m.a] 49))).1 q u hq
 simpa using this
theorem marksOneCo(m:Co):∀u∈marksCo m,u.oneCell'=true:=by
 intro u hu
 rw[← marksCo_eq]at hu
 exact flatOneCo hu
set_option maxRecDepth 20000 in
set_option maxHeartbeats 4000000 in
theorem LendC_any(w:World)(l:List Co)(m:Co)(v:Value)(hl:l.length≤100000)(hv:RowSl Co.vals w l v) :
  Calls Tryz.prog 20 #[v,m.val] w fun r w'=>∃u,r = .returned u∧Lent Co.vals w' l m u∧Below w.heap.size w w':=by
 obtain⟨ad,c,rfl,hnil,-,h⟩:=hv
 unfold Co.val
 obtain⟨i0,hi0,hz0,hz1,hz2⟩:=info_parts infoCo
 have hB0:Below (w.heap.size+1) (w.alloc (.cells #[.int .i64 m.k,.int .i64 m.a] 49)) ((w.alloc (.cells #[.int .i64 m.k,.int .i64 m.a] 49)).drew):=(Below.refl _ _).drew
 have hKeep:∀W,Below (w.heap.size+1) (w.alloc (.cells #[.int .i64 m.k,.int .i64 m.a] 49)) W→W.cell? ⟨w.heap.size,0,none⟩=some (.int .i64 m.k)∧W.cell? ⟨w.heap.size,1,none⟩=some (.int .i64 m.a):=fun W hb=>⟨(hb.cell (by show w.heap.size<w.heap.size+1;omega)).trans (by go_simp),(hb.cell (by show w.heap.size<w.heap.size+1;omega)).trans (by go_simp)⟩
 have hA:∀W,Below (w.heap.size+1) (w.alloc (.cells #[.int .i64 m.k,.int .i64 m.a] 49)) W→∀ad',ad=some ad'→∀j u,(l.flatMap Co.vals)[j]?=some u→W.cell? (ad'.add j)=some u:=fun W hb=>rowArg h ((below_new w (.cells #[.int .i64 m.k,.int .i64 m.a] 49)).trans (hb.mono (by omega)))
 obtain⟨w1,hm1,ho1,hb1,hl1⟩:=makeCo ((w.alloc (.cells #[.int .i64 m.k,.int .i64 m.a] 49)).drew) l.length (w.heap.size+1) (by omega) (by simp)
 obtain⟨v1,hm2,ho2,hb2,hl2⟩:=makeCo (((w.alloc (.cells #[.int .i64 m.k,.int .i64 m.a] 49)).drew).alloc (.cells #[.int .i64 m.k,.int .i64 m.a,.int .i64 m.k,.int .i64 m.a,.int .i64 m.k,.int .i64 m.a] 49)) l.length (w.heap.size+1+1) (by omega) (by simp)
 rw[show(((w.alloc (.cells #[.int .i64 m.k,.int .i64 m.a] 49)).drew).alloc (.cells #[.int .i64 m.k,.int .i64 m.a,.int .i64 m.k,.int .i64 m.a,.int .i64 m.k,.int .i64 m.a] 49))=((w.alloc (.cells #[.int .i64 m.k,.int .i64 m.a] 49)).alloc (.cells #[.int .i64 m.k,.int .i64 m.a,.int .i64 m.k,.int .i64 m.a,.int .i64 m.k,.int .i64 m.a] 49)).drew from rfl]at hm2
 have hBw1:Below (w.heap.size+1) (w.alloc (.cells #[.int .i64 m.k,.int .i64 m.a] 49)) w1:=hB0.trans hb1
 have hBv1:Below (w.heap.size+1) (w.alloc (.cells #[.int .i64 m.k,.int .i64 m.a] 49)) v1:=(hB0.alloc (by simp) (.cells #[.int .i64 m.k,.int .i64 m.a,.int .i64 m.k,.int .i64 m.a,.int .i64 m.k,.int .i64 m.a] 49)).trans (hb2.mono (by omega))
 have hmk2:∀j u,(marksCo m)[j]?=some u→v1.cell? ((⟨w.heap.size+1,0,none⟩:Addr).add j)=some u:=fun j u hj=>(hb2.cell (by rw[Addr.add_lit];show w.heap.size+1<w.heap.size+1+1;omega)).trans (marksCellsCo ((w.alloc (.cells #[.int .i64 m.k,.int .i64 m.a] 49)).drew) m _ (by simp) j u hj)
 have hwr:IntKind.i64.wrap ((l.length:Int)+3)=(l.length:Int)+3:=by rw[IntKind.wrap_i64];omega
 go_enter Tryz.func20,Tryz.ntmps20
 go_wp2_with fail
 refine wp_region_noPanic ?_
 refine wp_region_held_drew (S:=fun w'=>w'.cell? ⟨w.heap.size,0,none⟩=some (.int .i64 m.k)∧w'.cell? ⟨w.heap.size,1,none⟩=some (.int .i64 m.a)) (by kernel_rfl) (hKeep _ hB0) (fun hHeld=>?_)
 refine tqGLN0 (i:=0) (n:=6) (v:=?_) ?_ ?_
 rotate_left 1
 ·intro wz hSw
  first|(go_simp;done)|(go_simp;with_reducible rfl)
 simp only[ls0,ls1]
 refine tqGLN0 (i:=1) (n:=7) (v:=?_) ?_ ?_
 rotate_left 1
 ·intro wz hSw
  first|(go_simp;done)|(go_simp;with_reducible rfl)
 simp only[ls0,ls1]
 refine tqGLN0 (i:=2) (n:=8) (v:=?_) ?_ ?_
 rotate_left 1
 ·intro wz hSw
  first|(go_simp;done)|(go_simp;with_reducible rfl)
 simp only[ls0,ls1]
 refine tqGLN0 (i:=4) (n:=10) (v:=?_) ?_ ?_
 rotate_left 1
 ·intro wz hSw
  first|(go_simp;done)|(go_simp;with_reducible rfl)
 simp only[ls0,ls1]
 refine tqGLN0 (i:=6) (n:=12) (v:=?_) ?_ ?_
 rotate_left 1
 ·intro wz hSw
  first|(go_simp;done)|(go_simp;with_reducible rfl)
 simp only[ls0,ls1]
 refine tqGLN0 (i:=7) (n:=13) (v:=?_) ?_ ?_
 rotate_left 1
 ·intro wz hSw
  first|(go_simp;done)|(go_simp;with_reducible rfl)
 simp only[ls0,ls1]
 refine tqGLN0 (i:=8) (n:=14) (v:=?_) ?_ ?_
 rotate_left 1
 ·intro wz hSw
  first|(go_simp;done)|(go_simp;with_reducible rfl)
 simp only[ls0,ls1]
 refine wpAnyH_ready (rs:=[3,9]) (by kernel_rfl) (by simp) ?_
 refine AllReadyH.cons rfl (fun K hK=>?_) (AllReadyH.cons rfl (fun K hK=>?_) AllReadyH.nil)
 ·go_simp
  refine hK.out _ _ (hKeep _ hBw1) (fun hHeld=>?_)
  clear hK K
  refine wpAnyH_ready (rs:=[5,9]) (by kernel_rfl) (by simp) ?_
  refine AllReadyH.cons rfl (fun K hK=>?_) (AllReadyH.cons rfl (fun K hK=>?_) AllReadyH.nil)
  ·refine step_fits rfl 11 rfl (.tmp 9) (.tmp 10) 24 rfl (w.heap.size+1) 49 i0 2 Tryz.underlying24 hi0 hz1 (w.heap.size+1) (0) (l.length+3) ([]) rfl ho1 (ad) (l.length) (c) (l.flatMap Co.vals) rfl (flat_length Co.vals 2 Co.len l) hnil (hA w1 hBw1) (fun u hu=>flatOneCo hu) (by omega) l.length (by omega) (l.flatMap Co.vals) rfl ?_
   intro w2 how2 hgw2
   have hBw2:Below (w.heap.size+1) (w.alloc (.cells #[.int .i64 m.k,.int .i64 m.a] 49)) w2:=hBw1.grown hgw2 (by omega) (by intro q hq;cases hq;omega)
   have hszw2:=hgw2.size
   refine hK.out _ _ (hKeep _ hBw2) (fun hHeld=>?_)
   clear hK K
   simp only[ls0,ls1]
   refine wpAnyH_ready (rs:=[9]) (by kernel_rfl) (by simp) ?_
   refine AllReadyH.cons rfl (fun K hK=>?_) AllReadyH.nil
   go_simp
   refine hK.out _ _ (hKeep _ (hBw2.alloc (by omega) _)) (fun hHeld=>?_)
   clear hK K
   refine wpAnyH_ready (rs:=[10]) (by kernel_rfl) (by simp) ?_
   refine AllReadyH.cons rfl (fun K hK=>?_) AllReadyH.nil
   refine step_fits rfl 16 rfl (.tmp 11) (.tmp 15) 24 rfl (w.heap.size+1) 49 i0 2 Tryz.underlying24 hi0 hz1 (w.heap.size+1) l.length (l.length+3) (l.flatMap Co.vals) rfl (ownsRow_same how2 (fun k _ hk=>(below_new w2 _).block k hk)) (some ⟨w2.heap.size,0,none⟩) (3) (3) (marksCo m) rfl rfl (by intro e;cases e) (by intro ad' e j u hj;cases e;exact marksCellsCo w2 m _ rfl j u hj) (marksOneCo m) (by omega) (l.length+3) rfl (l.flatMap Co.vals++marksCo m) rfl ?_
   intro w3 how3 hgw3
   have hBw3:Below (w.heap.size+1) (w.alloc (.cells #[.int .i64 m.k,.int .i64 m.a] 49)) w3:=(hBw2.alloc (by omega) _).grown hgw3 (by simp;omega) (by intro q hq;cases hq;omega)
   have hszw3:=hgw3.size
   refine hK.out _ _ (hKeep _ hBw3) (fun hHeld=>?_)
   clear hK K
   simp only[ls0,ls1]
   refine tqGLN0 (i:=11) (n:=5) (v:=?_) ?_ ?_
   rotate_left 1
   ·intro wz hSw
    first|(go_simp;done)|(go_simp;with_reducible rfl)
   simp only[ls0,ls1]
   refine wpAnyH_done (by kernel_rfl) ?_ _
   refine NoPanic.normal ?_
   go_wp2_with fail
   go_ret
   refine⟨_,rfl,lentOfCo how3,(below_new w (.cells #[.int .i64 m.k,.int .i64 m.a] 49)).trans (hBw3.mono (by omega))⟩
  ·go_simp
   refine hK.out _ _ (hKeep _ (hBw1.alloc (by omega) _)) (fun hHeld=>?_)
   clear hK K
   refine wpAnyH_ready (rs:=[5]) (by kernel_rfl) (by simp) ?_
   refine AllReadyH.cons rfl (fun K hK=>?_) AllReadyH.nil
   refine step_fits rfl 11 rfl (.tmp 9) (.tmp 10) 24 rfl (w.heap.size+1) 49 i0 2 Tryz.underlying24 hi0 hz1 (w.heap.size+1) (0) (l.length+3) ([]) rfl (ownsRow_same ho1 (fun k _ hk=>(below_new w1 _).block k hk)) (ad) (l.length) (c) (l.flatMap Co.vals) rfl (flat_length Co.vals 2 Co.len l) hnil (hA (w1.alloc (.cells #[.int .i64 m.k,.int .i64 m.a,.int .i64 m.k,.int .i64 m.a,.int .i64 m.k,.int .i64 m.a] 49)) (hBw1.alloc (by omega) _)) (fun u hu=>flatOneCo hu) (by omega) l.length (by omega) (l.flatMap Co.vals) rfl ?_
   intro w2 how2 hgw2
   have hBw2:Below (w.heap.size+1) (w.alloc (.cells #[.int .i64 m.k,.int .i64 m.a] 49)) w2:=(hBw1.alloc (by omega) _).grown hgw2 (by simp;omega) (by intro q hq;cases hq;omega)
   have hszw2:=hgw2.size
   refine hK.out _ _ (hKeep _ hBw2) (fun hHeld=>?_)
   clear hK K
   simp only[ls0,ls1]
   refine wpAnyH_ready (rs:=[10]) (by kernel_rfl) (by simp) ?_
   refine AllReadyH.cons rfl (fun K hK=>?_) AllReadyH.nil
   refine step_fits rfl 16 rfl (.tmp 11) (.tmp 15) 24 rfl (w.heap.size+1) 49 i0 2 Tryz.underlying24 hi0 hz1 (w.heap.size+1) l.length (l.length+3) (l.flatMap Co.vals) rfl how2 (some ⟨w1.heap.size,0,none⟩) (3) (3) (marksCo m) rfl rfl (by intro e;cases e) (by intro ad' e j u hj;cases e;exact(hgw2.cell (marksCellsCo w1 m _ rfl j u hj) (by first|(simp[Addr.add_lit];done)|(simp[Addr.add_lit];omega)))) (marksOneCo m) (by omega) (l.length+3) rfl (l.flatMap Co.vals++marksCo m) rfl ?_
   intro w3 how3 hgw3
   have hBw3:Below (w.heap.size+1) (w.alloc (.cells #[.int .i64 m.k,.int .i64 m.a] 49)) w3:=hBw2.grown hgw3 (by simp at hszw2;omega) (by intro q hq;cases hq;omega)
   have hszw3:=hgw3.size
   refine hK.out _ _ (hKeep _ hBw3) (fun hHeld=>?_)
   clear hK K
   simp only[ls0,ls1]
   refine tqGLN0 (i:=11) (n:=5) (v:=?_) ?_ ?_
   rotate_left 1
   ·intro wz hSw
    first|(go_simp;done)|(go_simp;with_reducible rfl)
   simp only[ls0,ls1]
   refine wpAnyH_done (by kernel_rfl) ?_ _
   refine NoPanic.normal ?_
   go_wp2_with fail
   go_ret
   refine⟨_,rfl,lentOfCo how3,(below_new w (.cells #[.int .i64 m.k,.int .i64 m.a] 49)).trans (hBw3.mono (by omega))⟩
 ·go_simp
  refine hK.out _ _ (hKeep _ (hB0.alloc (by simp) _)) (fun hHeld=>?_)
  clear hK K
  refine wpAnyH_ready (rs:=[3]) (by kernel_rfl) (by simp) ?_
  refine AllReadyH.cons rfl (fun K hK=>?_) AllReadyH.nil
  go_simp
  refine hK.out _ _ (hKeep _ hBv1) (fun hHeld=>?_)
  clear hK K
  refine wpAnyH_ready (rs:=[5]) (by kernel_rfl) (by simp) ?_
  refine AllReadyH.cons rfl (fun K hK=>?_) AllReadyH.nil
  refine step_fits rfl 11 rfl (.tmp 9) (.tmp 10) 24 rfl (w.heap.size+1+1) 49 i0 2 Tryz.underlying24 hi0 hz1 (w.heap.size+1+1) (0) (l.length+3) ([]) rfl ho2 (ad) (l.length) (c) (l.flatMap Co.vals) rfl (flat_length Co.vals 2 Co.len l) hnil (hA v1 hBv1) (fun u hu=>flatOneCo hu) (by omega) l.length (by omega) (l.flatMap Co.vals) rfl ?_
  intro w2 how2 hgw2
  have hBw2:Below (w.heap.size+1) (w.alloc (.cells #[.int .i64 m.k,.int .i64 m.a] 49)) w2:=hBv1.grown hgw2 (by omega) (by intro q hq;cases hq;omega)
  have hszw2:=hgw2.size
  refine hK.out _ _ (hKeep _ hBw2) (fun hHeld=>?_)
  clear hK K
  simp only[ls0,ls1]
  refine wpAnyH_ready (rs:=[10]) (by kernel_rfl) (by simp) ?_
  refine AllReadyH.cons rfl (fun K hK=>?_) AllReadyH.nil
  refine step_fits rfl 16 rfl (.tmp 11) (.tmp 15) 24 rfl (w.heap.size+1+1) 49 i0 2 Tryz.underlying24 hi0 hz1 (w.heap.size+1+1) l.length (l.length+3) (l.flatMap Co.vals) rfl how2 (some ⟨w.heap.size+1,0,none⟩) (3) (3) (marksCo m) rfl rfl (by intro e;cases e) (by intro ad' e j u hj;cases e;exact(hgw2.cell (hmk2 j u hj) (by first|(simp[Addr.add_lit];done)|(simp[Addr.add_lit];omega)))) (marksOneCo m) (by omega) (l.length+3) rfl (l.flatMap Co.vals++marksCo m) rfl ?_
  intro w3 how3 hgw3
  have hBw3:Below (w.heap.size+1) (w.alloc (.cells #[.int .i64 m.k,.int .i64 m.a] 49)) w3:=hBw2.grown hgw3 (by omega) (by intro q hq;cases hq;omega)
  have hszw3:=hgw3.size
  refine hK.out _ _ (hKeep _ hBw3) (fun hHeld=>?_)
  clear hK K
  simp only[ls0,ls1]
  refine tqGLN0 (i:=11) (n:=5) (v:=?_) ?_ ?_
  rotate_left 1
  ·intro wz hSw
   first|(go_simp;done)|(go_simp;with_reducible rfl)
  simp only[ls0,ls1]
  refine wpAnyH_done (by kernel_rfl) ?_ _
  refine NoPanic.normal ?_
  go_wp2_with fail
  go_ret
  refine⟨_,rfl,lentOfCo how3,(below_new w (.cells #[.int .i64 m.k,.int .i64 m.a] 49)).trans (hBw3.mono (by omega))⟩
set_option maxRecDepth 20000 in
set_option maxHeartbeats 4000000 in
theorem StillC_any(w:World)(l:List Co)(m:Co)(v v':Value)(hl:l.length≤100000)(h:Lent Co.vals w l m v)(h':RowSl Co.vals w l v') :
  Calls Tryz.prog 27 #[v,v',m.val] w fun r w'=>r = .returned (.bool true)∧Below w.heap.size w w':=by
 obtain⟨b,o,cap,rfl,hcap,hrow⟩:=h
 obtain⟨ad',c',rfl,-,-,hc'⟩:=h'
 have HR:Hid (_∧_):=⟨hrow,hc'⟩
 clear hrow hc'
 have HM:Hid (∀w2:World,(∀q u,((l++[m,m,m]).flatMap Co.vals)[q]?=some u→w2.cell? ⟨b,o+q,none⟩=some u)→∀j,l.length≤j→j<l.length+3→CoAt w2 b (o+j*2) m):=fun w2 h j h1 h2=>by
  have key:∀k u,k<2→m.vals[k]?=some u→w2.cell? ⟨b,o+j*2+k,none⟩=some u:=fun k u hk hu=>by
   rw[Nat.add_assoc]
   exact lent_at Co.len h h1 h2 hk hu
  exact⟨key 0 _ (by omega) rfl,key 1 _ (by omega) rfl⟩
 obtain⟨mk,ma⟩:=m
 unfold Co.val
 dsimp only
 go_enter Tryz.func27,Tryz.ntmps27
 go_wp2_with fail
 go_loopw [17] (fun x wr=>∃j:Nat,j≤l.length+3∧x = .int .i64 j∧Below (w.heap.size+1) (w.alloc (.cells #[.int .i64 mk,.int .i64 ma] 49)) wr) (fun x _=>l.length+3-(intOf x).toNat)
 case atStart=>exact⟨0,Nat.zero_le _,rfl,Below.refl _ _⟩
 case round =>
  obtain⟨j,hj,rfl,hb⟩:=hrel
  have hbw:Below w.heap.size w wr:=(below_new w (.cells #[.int .i64 mk,.int .i64 ma] 49)).trans (hb.mono (by omega))
  have m_0:wr.cell? ⟨w.heap.size,0,none⟩=some (.int .i64 mk):=(hb.cell (by show w.heap.size<w.heap.size+1;omega)).trans (by go_simp)
  have m_1:wr.cell? ⟨w.heap.size,1,none⟩=some (.int .i64 ma):=(hb.cell (by show w.heap.size<w.heap.size+1;omega)).trans (by go_simp)
  have lw:w.heap.size<wr.heap.size:=World.block_lt_of_cell? _ _ m_0
  have HB:Hid (Below (w.heap.size+1) (w.alloc (.cells #[.int .i64 mk,.int .i64 ma] 49)) wr):=hb
  by_cases hlt:j<l.length
  ·obtain⟨x,hx,-⟩:=drop_at hlt
   have c:=co_at (fun q u hq=>below_cell hbw (HR.out.1 q u hq)) (show(l++_)[j]?=some x by rw[List.getElem?_append_left hlt];exact hx)
   rcases HR.out.2 with h|⟨b',o',had',hrow'⟩
   ·rw[h]at hlt;simp at hlt
   subst had'
   have d:=co_at (fun q u hq=>below_cell hbw (hrow' q u hq)) hx
   obtain⟨c0,c1⟩:=c
   obtain⟨d0,d1⟩:=d
   have lb':b'<wr.heap.size:=World.block_lt_of_cell? _ _ d0
   have f1:decide ((j:Int)<(l.length:Int))=true:=by simp;omega
   have f1':decide (j<l.length)=true:=by simp;omega
   have f2:decide ((l.length:Int)≤(j:Int))=false:=by simp;omega
   have f2':decide (l.length≤j)=false:=by simp;omega
   clear hrow' hb hbw hx
   obtain⟨xk,xa⟩:=x
   dsimp only at c0 c1 d0 d1
   go_wp2_with fail
   go_quiet (fail)
   go_wp2_with fail
   go_roundw
   case rel=>exact⟨j+1,by omega,by go_num,(HB.out.alloc (by omega) _).trans ((below_drewN').mono (by simp;omega))⟩
   case measure=>simp[intOf];omega
  ·by_cases hlt2:j<l.length+3
   ·have c:=HM.out wr (fun q u hq=>below_cell hbw (HR.out.1 q u hq)) j (by omega) hlt2
    obtain⟨c0,c1⟩:=c
    have f1:decide ((j:Int)<(l.length:Int))=false:=by simp;omega
    have f1':decide (j<l.length)=false:=by simp;omega
    have f2:decide ((l.length:Int)≤(j:Int))=true:=by simp;omega
    have f2':decide (l.length≤j)=true:=by simp;omega
    clear hb hbw
    dsimp only at c0 c1
    go_wp2_with fail
    go_quiet (fail)
    go_wp2_with fail
    go_roundw
    case rel=>exact⟨j+1,by omega,by go_num,(HB.out.alloc (by omega) _).trans ((below_drewN').mono (by simp;omega))⟩
    case measure=>simp[intOf];omega
   ·have hje:j=l.length+3:=by omega
    subst hje
    go_wp2_with fail
    go_ret
    exact⟨rfl,hbw⟩
theorem marks_cell(w:World)(m:Int)(j:Nat)(u:Value)(hj : [Value.int .i64 m,.int .i64 m,.int .i64 m][j]?=some u):(w.alloc (.cells #[.int .i64 m,.int .i64 m,.int .i64 m] 3)).cell? ((⟨w.heap.size,0,none⟩:Addr).add j)=some u:=by
 rw[Addr.add_lit]
 have:=(cells_of (l:=[_,_,_]) (heap_alloc_new w (.cells #[.int .i64 m,.int .i64 m,.int .i64 m] 3))).1 j u hj
 simpa using this
theorem lentOfN{w:World}{B g:Nat}{l:List Int}{m:Int}(h:w.ownsRow B 3 1 (.slice (some ⟨g,0,none⟩) (l.length+3) (l.length+3)) (l.length+3) (l.flatMap nuV++[.int .i64 m,.int .i64 m,.int .i64 m])):Lent nuV w l m (.slice (some ⟨g,0,none⟩) l.length (l.length+3)):=by
 refine⟨g,0,l.length+3,rfl,Nat.le_refl _,fun q u hq=>?_⟩
 rw[List.flatMap_append]at hq
 have hql:=(List.getElem?_eq_some_iff.1 hq).1
 rw[List.length_append,flat_length nuV 1 nuV_len]at hql
 have h9:([m,m,m].flatMap nuV).length=3:=rfl
 rw[Nat.zero_add]
 exact(h.cellAt q (by omega)).trans hq
set_option maxRecDepth 20000 in
set_option maxHeartbeats 4000000 in
theorem LendN_any(w:World)(vs:List Int)(m:Int)(v:Value)(hl:vs.length≤4194304)(hv:RowSl nuV w vs v) :
  Calls Tryz.prog 21 #[v,.int .i64 m] w fun r w'=>∃u,r = .returned u∧Lent nuV w' vs m u∧Below w.heap.size w w':=by
 obtain⟨ad,c,rfl,hnil,-,h⟩:=hv
 obtain⟨i0,hi0,hz0,hz1,hz2⟩:=info_parts info3
 obtain⟨w1,hrun,hown,hgr⟩:=run_make_own (P:=Tryz.prog) w w.heap.size 25 3 i0 _ 1 Tryz.underlying25 hi0 hz0 hz1 .i64 .i64 (vs.length+3) (by rw[hz2];omega) (by unfold maxLen;omega) (Nat.le_refl _)
 have hmk:(Instr.makeSlice 25 (.int .i64 0) (.int .i64 ((vs.length:Int)+3))).run Tryz.prog w = .ok (.slice (some ⟨w.heap.size,0,none⟩) 0 (vs.length+3)) w1:=hrun
 have hb1:Below w.heap.size w w1:=(Below.refl _ w).grown hgr (Nat.le_refl _) (by intro k hk;cases hk)
 have HM:Hid (w1.ownsRow w.heap.size 3 1 (.slice (some ⟨w.heap.size,0,none⟩) 0 (vs.length+3)) 0 []∧Below w.heap.size w w1∧(∀ad',ad=some ad'→∀j u,(vs.flatMap nuV)[j]?=some u→w1.cell? (ad'.add j)=some u)∧(ad=none→vs.length=0∧c=0)):=⟨hown,hb1,rowArg h hb1,hnil⟩
 clear hrun hown hgr hb1 h hnil
 go_enter Tryz.func21,Tryz.ntmps21
 go_wp2_with (first
  | (at_builtin;refine wpList_append_fits_any _ rfl (.tmp 9) (.tmp 10) 25 rfl w.heap.size 3 i0 1 Tryz.underlying25 hi0 hz1 w.heap.size 0 (vs.length+3) [] rfl HM.out.1 ad vs.length c (vs.flatMap nuV) rfl (flat_length nuV 1 nuV_len vs) HM.out.2.2.2 HM.out.2.2.1 (fun u hu=>flatOneN hu) (by omega) ?_;intro w2 ho2 hg2;simp only[Nat.zero_add,List.nil_append]at ho2 ⊢;have H2:Hid (w2.ownsRow w.heap.size 3 1 (.slice (some ⟨w.heap.size,0,none⟩) vs.length (vs.length+3)) vs.length (vs.flatMap nuV)∧Below w.heap.size w w2):=⟨ho2,HM.out.2.1.grown hg2 HM.out.2.1.size (by intro k hk;cases hk;exact Nat.le_refl _)⟩;clear ho2 hg2)
  | (at_builtin;refine wpList_append_fits_any _ rfl (.tmp 11) (.tmp 15) 25 rfl w.heap.size 3 i0 1 Tryz.underlying25 hi0 hz1 w.heap.size vs.length (vs.length+3) (vs.flatMap nuV) rfl (ownsRow_below H2.out.1 ((Below.refl _ _).alloc (Nat.le_refl _) _)) (some ⟨w2.heap.size,0,none⟩) 3 3 [.int .i64 m,.int .i64 m,.int .i64 m] rfl rfl (by intro e;cases e) (by intro ad' e j u hj;cases e;exact marks_cell w2 m j u hj) (by intro u hu;simp at hu;subst hu;rfl) (Nat.le_refl _) ?_;intro w3 ho3 hg3;have H3:Hid (w3.ownsRow w.heap.size 3 1 (.slice (some ⟨w.heap.size,0,none⟩) (vs.length+3) (vs.length+3)) (vs.length+3) (vs.flatMap nuV++[.int .i64 m,.int .i64 m,.int .i64 m])∧Below w.heap.size w w3):=⟨ho3,(H2.out.2.alloc H2.out.2.size _).grown hg3 (by have:=H2.out.2.size;simp;omega) (by intro k hk;cases hk;exact Nat.le_refl _)⟩;clear ho3 hg3))
 go_ret
 exact⟨_,rfl,lentOfN H3.out.1,H3.out.2⟩
set_option maxRecDepth 20000 in
set_option maxHeartbeats 4000000 in
theorem StillN_any(w:World)(vs:List Int)(m:Int)(v v':Value)(hl:vs.length≤4194304)(h:Lent nuV w vs m v)(h':RowSl nuV w vs v') :
  Calls Tryz.prog 28 #[v,v',.int .i64 m] w fun r w'=>r = .returned (.bool true)∧Below w.heap.size w w':=by
 obtain⟨b,o,cap,rfl,hcap,hrow⟩:=h
 obtain⟨ad',c',rfl,-,-,hc'⟩:=h'
 have HR:Hid (_∧_):=⟨hrow,hc'⟩
 clear hrow hc'
 go_enter Tryz.func28,Tryz.ntmps28
 go_wp2_with fail
 go_loopw [17] (fun x wr=>∃j:Nat,j≤vs.length+3∧x = .int .i64 j∧Below w.heap.size w wr) (fun x _=>vs.length+3-(intOf x).toNat)
 case atStart=>exact⟨0,Nat.zero_le _,rfl,Below.refl _ _⟩
 case round =>
  obtain⟨j,hj,rfl,hb⟩:=hrel
  by_cases hlt:j<vs.length
  ·obtain⟨z,hz,-⟩:=drop_at hlt
   have c0:=nu_at (fun q u hq=>below_cell hb (HR.out.1 q u hq)) (show(vs++_)[j]?=some z by rw[List.getElem?_append_left hlt];exact hz)
   rcases HR.out.2 with h|⟨b',o',had',hrow'⟩
   ·rw[h]at hlt;simp at hlt
   subst had'
   have d0:=nu_at (fun q u hq=>below_cell hb (hrow' q u hq)) hz
   clear hrow' hz
   have HB:Hid (Below w.heap.size w wr):=hb
   clear hb
   go_wp2_with fail
   go_roundw
   case rel=>exact⟨j+1,by omega,by go_num,HB.out⟩
   case measure=>simp[intOf];omega
  ·by_cases hlt2:j<vs.length+3
   ·have c0:=lent_at (k:=0) nuV_len (fun q u hq=>below_cell hb (HR.out.1 q u hq)) (by omega) hlt2 (by omega) rfl
    rw[Nat.mul_one,Nat.add_zero]at c0
    have HB:Hid (Below w.heap.size w wr):=hb
    clear hb
    go_wp2_with fail
    go_roundw
    case rel=>exact⟨j+1,by omega,by go_num,HB.out⟩
    case measure=>simp[intOf];omega
   ·have hje:j=vs.length+3:=by omega
    subst hje
    go_wp2_with fail
    go_ret
    exact⟨rfl,hb⟩
end Go.Proofs.YtccoobcggbbcialGreatDoor
