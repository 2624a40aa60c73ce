import Derived.Test.YtccoobcggbbcialGreatDoorGQC
import Derived.Test.YtccoobcggbbcialGreatDoorGQB
import Derived.Test.YtccoobcggbbcialGreatDoorGQN
import Derived.Test.YtccoobcggbbcialGreatDoorGQS
import Derived.Test.YtccoobcggbbcialGreatDoorGHZ6
import Derived.OwnWalk
namespace Go.Proofs.YtccoobcggbbcialGreatDoor
open Go.ChangeShapes Go.WideShapes Go.ChangeAt Go.RowKit
theorem tqGHU0{P:Program}{md:Region.Mode}{ops:Array Oper}{Q:Exit→Act→World→Prop}{S:World→Prop}{i n:Nat}{oi:Oper}{v:Value}{fuel:Nat}{listed:Array Bool}{l:List Value}{ds:List Deferred}{w:World}
  (hy:∀w,S w→(execOp (Act.eval ⟨l.toArray,ds⟩) oi).run P w = .ok (.value v) w) (h:wpAnyH P md ops Q S fuel (listed.setIfInBounds i true) ⟨(l.set n v).toArray,ds⟩ w)
  (hi:ops[i]?=some oi:=by rfl) (hd:oi.dst=some n:=by rfl) (hs:(Region.noSelect ops && Region.free md ops listed i && (Region.ready md ops listed).contains i)=true:=by kernel_rfl)
  (hQ:∀c a w,Q (.panic c) (a.put oi.dst v) w→Q (.panic c) a w:=by exact fun _ _ _ h=>h) (hg:Region.wanted oi (yielded ops l.toArray)=true:=by rfl) (hS:S w:=by assumption):wpAnyH P md ops Q S (fuel+1) listed ⟨l.toArray,ds⟩ w:=by
 simp only[Bool.and_eq_true]at hs
 exact take_at hi hd hs.1.1 hs.1.2 hs.2 hQ (.inl ⟨hg,hy⟩) hS h
end Go.Proofs.YtccoobcggbbcialGreatDoor
namespace Go.Proofs.YtccoobcggbbcialGreatDoor
open Go.ChangeShapes Go.WideShapes Go.ChangeAt Go.RowKit
open Keep
theorem PlayD_any:∀(w:World) (l:List Pa) (cs:List Co) (tk:List Int) (n:Int) (pv cv tv:Value),RowSl Pa.vals w l pv→RowSl Co.vals w cs cv→RowSl nuV w tk tv→cs.length≤1000000→tk.length≤1000000→Calls Tryz.prog 23 #[pv,cv,tv,.int .i64 n] w (PlayDPost w l cs tk n) :=
 (QMp.2 ⟨(QTp.2.2.2 ⟨QCl⟩ ⟨(QJp.2 ⟨(QPp.2.2 ⟨QBl⟩ ⟨QNl⟩)⟩)⟩ ⟨(QAp.2 ⟨QSl⟩)⟩)⟩)
end Go.Proofs.YtccoobcggbbcialGreatDoor
namespace Go.Proofs.YtccoobcggbbcialGreatDoor
open Go.ChangeShapes Go.WideShapes Go.ChangeAt Go.RowKit
theorem infoPa:(Tryz.prog.info? 66).map (fun i=>(i.zero,i.size,i.bytes))=some (some (.agg #[.int .i64 0,.int .i64 0,.int .i64 0,.int .i64 0,.int .i64 0,.int .i64 0,.int .i64 0]),7,56):=by kernel_rfl
def PaAt7(w:World)(b o:Nat)(x:Pa):Prop:=w.cell? ⟨b,o,none⟩=some (.int .i64 x.co)∧w.cell? ⟨b,o+1,none⟩=some (.int .i64 x.fr)∧w.cell? ⟨b,o+2,none⟩=some (.int .i64 x.se)∧w.cell? ⟨b,o+3,none⟩=some (.int .i64 x.c)∧w.cell? ⟨b,o+4,none⟩=some (.int .i64 x.t)∧w.cell? ⟨b,o+5,none⟩=some (.int .i64 x.d)∧w.cell? ⟨b,o+6,none⟩=some (.int .i64 x.p)
theorem paAt_of{w:World}{l:List Pa}{b o j:Nat}{x:Pa}(h:∀q u,(l.flatMap Pa.vals)[q]?=some u→w.cell? ⟨b,o+q,none⟩=some u)(hj:l[j]?=some x):PaAt7 w b (o+j*7) x:=pa7_at h hj
theorem Pa.one{x:Pa}{u:Value}(h:u∈x.vals):u.oneCell'=true:=by
 simp only[Pa.vals,List.mem_cons,List.not_mem_nil,or_false]at h
 rcases h with h|h|h|h|h|h|h<;>subst h<;>rfl
theorem step_fits{P:Program}{ops:Array Oper}{o:Oper}{lst:List Value}{ds:List Deferred}{w:World}{K:Act→World→Prop}{Q:Exit→Act→World→Prop}{E:Prop}(hg:o.guard=none)(nd:Nat)(hnd:o.dst=some nd)(s x:Operand)(t:TypeId)(hop:o.op=Op.call { callee:=Callee.builtin Builtin.append,args:=#[s,x],argTypes:=#[t,t] })
  (base:Nat) (e:TypeId) (i:TypeInfo) (size:Nat) (h1:P.underlying t=some (.slice e)) (h2:P.info? e=some i) (h4:i.size=size)
  (g k cap:Nat) (xs:List Value) (hs:(Act.mk lst.toArray ds).eval s = .slice (some ⟨g,0,none⟩) k cap) (hown:w.ownsRow base e size (.slice (some ⟨g,0,none⟩) k cap) k xs) (ao:Option Addr) (m c:Nat) (news:List Value) (hx:(Act.mk lst.toArray ds).eval x = .slice ao m c) (hn:news.length=m*size)
  (hnone:ao=none→m=0∧c=0) (hc:∀ad,ao=some ad→∀j u,news[j]?=some u→w.cell? (ad.add j)=some u) (h1c:∀u∈news,u.oneCell'=true) (b1:k+m≤cap) (n':Nat) (hn':k+m=n') (ys:List Value) (hys:xs++news=ys)
  (hK:∀w',w'.ownsRow base e size (.slice (some ⟨g,0,none⟩) n' cap) n' ys→w.grownBy w' (some g)→K ⟨(lst.set nd (.slice (some ⟨g,0,none⟩) n' cap)).toArray,ds⟩ w') :
  if Region.wanted o (yielded ops (Act.mk lst.toArray ds).tmps)=true then Oper.wp P o ⟨lst.toArray,ds⟩ w K Q else E:=by
 subst hn' hys
 have hw:Region.wanted o (yielded ops (Act.mk lst.toArray ds).tmps)=true:=by simp[Region.wanted,hg]
 rw[if_pos hw]
 obtain⟨w',hrun,ho,hgr⟩:∃w',(Builtin.append_ #[t,t] o.type #[.slice (some ⟨g,0,none⟩) k cap,.slice ao m c]).run P w = .ok (.slice (some ⟨g,0,none⟩) (k+m) cap) w'∧w'.ownsRow base e size (.slice (some ⟨g,0,none⟩) (k+m) cap) (k+m) (xs++news)∧w.grownBy w' (some g):=by
  cases ao with
  | some ad=>exact run_append_fits w base t o.type e i size h1 h2 h4 g k cap xs hown ad m c news hn (hc ad rfl) h1c b1
  | none =>
   obtain⟨rfl,rfl⟩:=hnone rfl
   have hnil:news=[]:=List.eq_nil_of_length_eq_zero (by rw[hn];omega)
   subst hnil
   exact⟨w,run_append_owned_none w base t o.type e i size h1 h2 _ k xs hown,by simpa using hown,⟨rfl,rfl,rfl,Nat.le_refl _,fun _ _ _=>rfl⟩⟩
 have hk2:=hK _ ho hgr
 have ep:Act.put ⟨lst.toArray,ds⟩ o.dst (.slice (some ⟨g,0,none⟩) (k+m) cap)=⟨(lst.set nd (.slice (some ⟨g,0,none⟩) (k+m) cap)).toArray,ds⟩:=by rw[hnd];simp[Act.put]
 rw[← ep]at hk2
 unfold Oper.wp
 simp[execOp,hop,resolve,invoke,builtin,hs,hx,hrun,Result.andThen]
 exact hk2
theorem flatOnePa{l:List Pa}{u:Value}(h:u∈l.flatMap Pa.vals):u.oneCell'=true:=by
 obtain⟨x,h⟩:=flat_mem h
 exact Pa.one h
def marksPa(m:Pa):List Value:=[.int .i64 m.co,.int .i64 m.fr,.int .i64 m.se,.int .i64 m.c,.int .i64 m.t,.int .i64 m.d,.int .i64 m.p,.int .i64 m.co,.int .i64 m.fr,.int .i64 m.se,.int .i64 m.c,.int .i64 m.t,.int .i64 m.d,.int .i64 m.p,.int .i64 m.co,.int .i64 m.fr,.int .i64 m.se,.int .i64 m.c,.int .i64 m.t,.int .i64 m.d,.int .i64 m.p]
theorem marksPa_eq(m:Pa) : [m,m,m].flatMap Pa.vals=marksPa m:=rfl
theorem lentOfPa{w:World}{B g:Nat}{l:List Pa}{m:Pa}(h:w.ownsRow B 66 7 (.slice (some ⟨g,0,none⟩) (l.length+3) (l.length+3)) (l.length+3) (l.flatMap Pa.vals++marksPa m)):Lent Pa.vals w l m (.slice (some ⟨g,0,none⟩) l.length (l.length+3)):=by
 refine⟨g,0,l.length+3,rfl,Nat.le_refl _,fun q u hq=>?_⟩
 rw[List.flatMap_append,marksPa_eq]at hq
 have hql:=(List.getElem?_eq_some_iff.1 hq).1
 rw[List.length_append,flat_length Pa.vals 7 Pa.len]at hql
 have h9:(marksPa m).length=21:=rfl
 rw[Nat.zero_add]
 exact(h.cellAt q (by omega)).trans hq
theorem makePa(W:World)(n g:Nat)(hn:n≤100003)(hg:W.heap.size=g):∃w1,(Instr.makeSlice 61 (.int .i64 0) (.int .i64 ((n:Int)+3))).run Tryz.prog W = .ok (.slice (some ⟨g,0,none⟩) 0 (n+3)) w1∧w1.ownsRow g 66 7 (.slice (some ⟨g,0,none⟩) 0 (n+3)) 0 []∧Below g W w1∧g<w1.heap.size:=by
 subst hg
 obtain⟨i0,hi0,hz0,hz1,hz2⟩:=info_parts infoPa
 obtain⟨w1,hrun,hown,hgr⟩:=run_make_own (P:=Tryz.prog) W W.heap.size 61 66 i0 _ 7 Tryz.underlying61 hi0 hz0 hz1 .i64 .i64 (n+3) (by rw[hz2];omega) (by unfold maxLen;omega) (Nat.le_refl _)
 exact⟨w1,hrun,hown,(Below.refl _ W).grown hgr (Nat.le_refl _) (by intro k hk;cases hk),(hown.lt _ rfl).2⟩
theorem marksCellsPa(W:World)(m:Pa)(g:Nat)(hg:W.heap.size=g)(q:Nat)(u:Value)(hq:(marksPa m)[q]?=some u):(W.alloc (.cells #[.int .i64 m.co,.int .i64 m.fr,.int .i64 m.se,.int .i64 m.c,.int .i64 m.t,.int .i64 m.d,.int .i64 m.p,.int .i64 m.co,.int .i64 m.fr,.int .i64 m.se,.int .i64 m.c,.int .i64 m.t,.int .i64 m.d,.int .i64 m.p,.int .i64 m.co,.int .i64 m.fr,.int .i64 m.se,.int .i64 m.c,.int .i64 m.t,.int .i64 m.d,.int .i64 m.p] 66)).cell? ((⟨g,0,none⟩:Addr).add q)=some u:=by
 subst hg
 rw[Addr.add_lit]
 have:=(cells_of (l:=marksPa m) (heap_alloc_new W (.cells #[.int .i64 m.co,.int .i64 m.fr,.int .i64 m.se,.int .i64 m.c,.int .i64 m.t,.int .i64 m.d,.int .i64 m.p,.int .i64 m.co,.int .i64 m.fr,.int .i64 m.se,.int .i64 m.c,.int .i64 m.t,.int .i64 m.d,.int .i64 m.p,.int .i64 m.co,.int .i64 m.fr,.int .i64 m.se,.int .i64 m.c,.int .i64 m.t,.int .i64 m.d,.int .i64 m.p] 66))).1 q u hq
 simpa using this
theorem marksOnePa(m:Pa):∀u∈marksPa m,u.oneCell'=true:=by
 intro u hu
 rw[← marksPa_eq]at hu
 exact flatOnePa hu
set_option maxRecDepth 20000 in
set_option maxHeartbeats 4000000 in
theorem LendPa_any(w:World)(l:List Pa)(m:Pa)(v:Value)(hl:l.length≤100000)(hv:RowSl Pa.vals w l v) :
  Calls Tryz.prog 19 #[v,m.val] w fun r w'=>∃u,r = .returned u∧Lent Pa.vals w' l m u∧Below w.heap.size w w':=by
 obtain⟨ad,c,rfl,hnil,-,h⟩:=hv
 unfold Pa.val
 obtain⟨i0,hi0,hz0,hz1,hz2⟩:=info_parts infoPa
 have hB0:Below (w.heap.size+1) (w.alloc (.cells #[.int .i64 m.co,.int .i64 m.fr,.int .i64 m.se,.int .i64 m.c,.int .i64 m.t,.int .i64 m.d,.int .i64 m.p] 66)) ((w.alloc (.cells #[.int .i64 m.co,.int .i64 m.fr,.int .i64 m.se,.int .i64 m.c,.int .i64 m.t,.int .i64 m.d,.int .i64 m.p] 66)).drew):=(Below.refl _ _).drew
 have hKeep:∀W,Below (w.heap.size+1) (w.alloc (.cells #[.int .i64 m.co,.int .i64 m.fr,.int .i64 m.se,.int .i64 m.c,.int .i64 m.t,.int .i64 m.d,.int .i64 m.p] 66)) W→W.cell? ⟨w.heap.size,0,none⟩=some (.int .i64 m.co)∧W.cell? ⟨w.heap.size,1,none⟩=some (.int .i64 m.fr)∧W.cell? ⟨w.heap.size,2,none⟩=some (.int .i64 m.se)∧W.cell? ⟨w.heap.size,3,none⟩=some (.int .i64 m.c)∧W.cell? ⟨w.heap.size,4,none⟩=some (.int .i64 m.t)∧W.cell? ⟨w.heap.size,5,none⟩=some (.int .i64 m.d)∧W.cell? ⟨w.heap.size,6,none⟩=some (.int .i64 m.p):=fun W hb=>⟨(hb.cell (by show w.heap.size<w.heap.size+1;omega)).trans (by go_simp),(hb.cell (by show w.heap.size<w.heap.size+1;omega)).trans (by go_simp),(hb.cell (by show w.heap.size<w.heap.size+1;omega)).trans (by go_simp),(hb.cell (by show w.heap.size<w.heap.size+1;omega)).trans (by go_simp),(hb.cell (by show w.heap.size<w.heap.size+1;omega)).trans (by go_simp),(hb.cell (by show w.heap.size<w.heap.size+1;omega)).trans (by go_simp),(hb.cell (by show w.heap.size<w.heap.size+1;omega)).trans (by go_simp)⟩
 have hA:∀W,Below (w.heap.size+1) (w.alloc (.cells #[.int .i64 m.co,.int .i64 m.fr,.int .i64 m.se,.int .i64 m.c,.int .i64 m.t,.int .i64 m.d,.int .i64 m.p] 66)) W→∀ad',ad=some ad'→∀j u,(l.flatMap Pa.vals)[j]?=some u→W.cell? (ad'.add j)=some u:=fun W hb=>rowArg h ((below_new w (.cells #[.int .i64 m.co,.int .i64 m.fr,.int .i64 m.se,.int .i64 m.c,.int .i64 m.t,.int .i64 m.d,.int .i64 m.p] 66)).trans (hb.mono (by omega)))
 obtain⟨w1,hm1,ho1,hb1,hl1⟩:=makePa ((w.alloc (.cells #[.int .i64 m.co,.int .i64 m.fr,.int .i64 m.se,.int .i64 m.c,.int .i64 m.t,.int .i64 m.d,.int .i64 m.p] 66)).drew) l.length (w.heap.size+1) (by omega) (by simp)
 obtain⟨v1,hm2,ho2,hb2,hl2⟩:=makePa (((w.alloc (.cells #[.int .i64 m.co,.int .i64 m.fr,.int .i64 m.se,.int .i64 m.c,.int .i64 m.t,.int .i64 m.d,.int .i64 m.p] 66)).drew).alloc (.cells #[.int .i64 m.co,.int .i64 m.fr,.int .i64 m.se,.int .i64 m.c,.int .i64 m.t,.int .i64 m.d,.int .i64 m.p,.int .i64 m.co,.int .i64 m.fr,.int .i64 m.se,.int .i64 m.c,.int .i64 m.t,.int .i64 m.d,.int .i64 m.p,.int .i64 m.co,.int .i64 m.fr,.int .i64 m.se,.int .i64 m.c,.int .i64 m.t,.int .i64 m.d,.int .i64 m.p] 66)) l.length (w.heap.size+1+1) (by omega) (by simp)
 rw[show(((w.alloc (.cells #[.int .i64 m.co,.int .i64 m.fr,.int .i64 m.se,.int .i64 m.c,.int .i64 m.t,.int .i64 m.d,.int .i64 m.p] 66)).drew).alloc (.cells #[.int .i64 m.co,.int .i64 m.fr,.int .i64 m.se,.int .i64 m.c,.int .i64 m.t,.int .i64 m.d,.int .i64 m.p,.int .i64 m.co,.int .i64 m.fr,.int .i64 m.se,.int .i64 m.c,.int .i64 m.t,.int .i64 m.d,.int .i64 m.p,.int .i64 m.co,.int .i64 m.fr,.int .i64 m.se,.int .i64 m.c,.int .i64 m.t,.int .i64 m.d,.int .i64 m.p] 66))=((w.alloc (.cells #[.int .i64 m.co,.int .i64 m.fr,.int .i64 m.se,.int .i64 m.c,.int .i64 m.t,.int .i64 m.d,.int .i64 m.p] 66)).alloc (.cells #[.int .i64 m.co,.int .i64 m.fr,.int .i64 m.se,.int .i64 m.c,.int .i64 m.t,.int .i64 m.d,.int .i64 m.p,.int .i64 m.co,.int .i64 m.fr,.int .i64 m.se,.int .i64 m.c,.int .i64 m.t,.int .i64 m.d,.int .i64 m.p,.int .i64 m.co,.int .i64 m.fr,.int .i64 m.se,.int .i64 m.c,.int .i64 m.t,.int .i64 m.d,.int .i64 m.p] 66)).drew from rfl]at hm2
 have hBw1:Below (w.heap.size+1) (w.alloc (.cells #[.int .i64 m.co,.int .i64 m.fr,.int .i64 m.se,.int .i64 m.c,.int .i64 m.t,.int .i64 m.d,.int .i64 m.p] 66)) w1:=hB0.trans hb1
 have hBv1:Below (w.heap.size+1) (w.alloc (.cells #[.int .i64 m.co,.int .i64 m.fr,.int .i64 m.se,.int .i64 m.c,.int .i64 m.t,.int .i64 m.d,.int .i64 m.p] 66)) v1:=(hB0.alloc (by simp) (.cells #[.int .i64 m.co,.int .i64 m.fr,.int .i64 m.se,.int .i64 m.c,.int .i64 m.t,.int .i64 m.d,.int .i64 m.p,.int .i64 m.co,.int .i64 m.fr,.int .i64 m.se,.int .i64 m.c,.int .i64 m.t,.int .i64 m.d,.int .i64 m.p,.int .i64 m.co,.int .i64 m.fr,.int .i64 m.se,.int .i64 m.c,.int .i64 m.t,.int .i64 m.d,.int .i64 m.p] 66)).trans (hb2.mono (by omega))
 have hmk2:∀j u,(marksPa m)[j]?=some u→v1.cell? ((⟨w.heap.size+1,0,none⟩:Addr).add j)=some u:=fun j u hj=>(hb2.cell (by rw[Addr.add_lit];show w.heap.size+1<w.heap.size+1+1;omega)).trans (marksCellsPa ((w.alloc (.cells #[.int .i64 m.co,.int .i64 m.fr,.int .i64 m.se,.int .i64 m.c,.int .i64 m.t,.int .i64 m.d,.int .i64 m.p] 66)).drew) m _ (by simp) j u hj)
 have hwr:IntKind.i64.wrap ((l.length:Int)+3)=(l.length:Int)+3:=by rw[IntKind.wrap_i64];omega
 go_enter Tryz.func19,Tryz.ntmps19
 go_wp2_with fail
 refine wp_region_noPanic ?_
 refine wp_region_held_drew (S:=fun w'=>w'.cell? ⟨w.heap.size,0,none⟩=some (.int .i64 m.co)∧w'.cell? ⟨w.heap.size,1,none⟩=some (.int .i64 m.fr)∧w'.cell? ⟨w.heap.size,2,none⟩=some (.int .i64 m.se)∧w'.cell? ⟨w.heap.size,3,none⟩=some (.int .i64 m.c)∧w'.cell? ⟨w.heap.size,4,none⟩=some (.int .i64 m.t)∧w'.cell? ⟨w.heap.size,5,none⟩=some (.int .i64 m.d)∧w'.cell? ⟨w.heap.size,6,none⟩=some (.int .i64 m.p)) (by kernel_rfl) (hKeep _ hB0) (fun hHeld=>?_)
 refine tqGHU0 (i:=0) (n:=6) (v:=?_) ?_ ?_
 rotate_left 1
 ·intro wz hSw
  first|(go_simp;done)|(go_simp;with_reducible rfl)
 simp only[ls0,ls1]
 refine tqGHU0 (i:=1) (n:=7) (v:=?_) ?_ ?_
 rotate_left 1
 ·intro wz hSw
  first|(go_simp;done)|(go_simp;with_reducible rfl)
 simp only[ls0,ls1]
 refine tqGHU0 (i:=2) (n:=8) (v:=?_) ?_ ?_
 rotate_left 1
 ·intro wz hSw
  first|(go_simp;done)|(go_simp;with_reducible rfl)
 simp only[ls0,ls1]
 refine tqGHU0 (i:=4) (n:=10) (v:=?_) ?_ ?_
 rotate_left 1
 ·intro wz hSw
  first|(go_simp;done)|(go_simp;with_reducible rfl)
 simp only[ls0,ls1]
 refine tqGHU0 (i:=6) (n:=12) (v:=?_) ?_ ?_
 rotate_left 1
 ·intro wz hSw
  first|(go_simp;done)|(go_simp;with_reducible rfl)
 simp only[ls0,ls1]
 refine tqGHU0 (i:=7) (n:=13) (v:=?_) ?_ ?_
 rotate_left 1
 ·intro wz hSw
  first|(go_simp;done)|(go_simp;with_reducible rfl)
 simp only[ls0,ls1]
 refine tqGHU0 (i:=8) (n:=14) (v:=?_) ?_ ?_
 rotate_left 1
 ·intro wz hSw
  first|(go_simp;done)|(go_simp;with_reducible rfl)
 simp only[ls0,ls1]
 refine wpAnyH_ready (rs:=[3,9]) (by kernel_rfl) (by simp) ?_
 refine AllReadyH.cons rfl (fun K hK=>?_) (AllReadyH.cons rfl (fun K hK=>?_) AllReadyH.nil)
 ·go_simp
  refine hK.out _ _ (hKeep _ hBw1) (fun hHeld=>?_)
  clear hK K
  refine wpAnyH_ready (rs:=[5,9]) (by kernel_rfl) (by simp) ?_
  refine AllReadyH.cons rfl (fun K hK=>?_) (AllReadyH.cons rfl (fun K hK=>?_) AllReadyH.nil)
  ·refine step_fits rfl 11 rfl (.tmp 9) (.tmp 10) 61 rfl (w.heap.size+1) 66 i0 7 Tryz.underlying61 hi0 hz1 (w.heap.size+1) (0) (l.length+3) ([]) rfl ho1 (ad) (l.length) (c) (l.flatMap Pa.vals) rfl (flat_length Pa.vals 7 Pa.len l) hnil (hA w1 hBw1) (fun u hu=>flatOnePa hu) (by omega) l.length (by omega) (l.flatMap Pa.vals) rfl ?_
   intro w2 how2 hgw2
   have hBw2:Below (w.heap.size+1) (w.alloc (.cells #[.int .i64 m.co,.int .i64 m.fr,.int .i64 m.se,.int .i64 m.c,.int .i64 m.t,.int .i64 m.d,.int .i64 m.p] 66)) w2:=hBw1.grown hgw2 (by omega) (by intro q hq;cases hq;omega)
   have hszw2:=hgw2.size
   refine hK.out _ _ (hKeep _ hBw2) (fun hHeld=>?_)
   clear hK K
   simp only[ls0,ls1]
   refine wpAnyH_ready (rs:=[9]) (by kernel_rfl) (by simp) ?_
   refine AllReadyH.cons rfl (fun K hK=>?_) AllReadyH.nil
   go_simp
   refine hK.out _ _ (hKeep _ (hBw2.alloc (by omega) _)) (fun hHeld=>?_)
   clear hK K
   refine wpAnyH_ready (rs:=[10]) (by kernel_rfl) (by simp) ?_
   refine AllReadyH.cons rfl (fun K hK=>?_) AllReadyH.nil
   refine step_fits rfl 16 rfl (.tmp 11) (.tmp 15) 61 rfl (w.heap.size+1) 66 i0 7 Tryz.underlying61 hi0 hz1 (w.heap.size+1) l.length (l.length+3) (l.flatMap Pa.vals) rfl (ownsRow_same how2 (fun k _ hk=>(below_new w2 _).block k hk)) (some ⟨w2.heap.size,0,none⟩) (3) (3) (marksPa m) rfl rfl (by intro e;cases e) (by intro ad' e j u hj;cases e;exact marksCellsPa w2 m _ rfl j u hj) (marksOnePa m) (by omega) (l.length+3) rfl (l.flatMap Pa.vals++marksPa m) rfl ?_
   intro w3 how3 hgw3
   have hBw3:Below (w.heap.size+1) (w.alloc (.cells #[.int .i64 m.co,.int .i64 m.fr,.int .i64 m.se,.int .i64 m.c,.int .i64 m.t,.int .i64 m.d,.int .i64 m.p] 66)) w3:=(hBw2.alloc (by omega) _).grown hgw3 (by simp;omega) (by intro q hq;cases hq;omega)
   have hszw3:=hgw3.size
   refine hK.out _ _ (hKeep _ hBw3) (fun hHeld=>?_)
   clear hK K
   simp only[ls0,ls1]
   refine tqGHU0 (i:=11) (n:=5) (v:=?_) ?_ ?_
   rotate_left 1
   ·intro wz hSw
    first|(go_simp;done)|(go_simp;with_reducible rfl)
   simp only[ls0,ls1]
   refine wpAnyH_done (by kernel_rfl) ?_ _
   refine NoPanic.normal ?_
   go_wp2_with fail
   go_ret
   refine⟨_,rfl,lentOfPa how3,(below_new w (.cells #[.int .i64 m.co,.int .i64 m.fr,.int .i64 m.se,.int .i64 m.c,.int .i64 m.t,.int .i64 m.d,.int .i64 m.p] 66)).trans (hBw3.mono (by omega))⟩
  ·go_simp
   refine hK.out _ _ (hKeep _ (hBw1.alloc (by omega) _)) (fun hHeld=>?_)
   clear hK K
   refine wpAnyH_ready (rs:=[5]) (by kernel_rfl) (by simp) ?_
   refine AllReadyH.cons rfl (fun K hK=>?_) AllReadyH.nil
   refine step_fits rfl 11 rfl (.tmp 9) (.tmp 10) 61 rfl (w.heap.size+1) 66 i0 7 Tryz.underlying61 hi0 hz1 (w.heap.size+1) (0) (l.length+3) ([]) rfl (ownsRow_same ho1 (fun k _ hk=>(below_new w1 _).block k hk)) (ad) (l.length) (c) (l.flatMap Pa.vals) rfl (flat_length Pa.vals 7 Pa.len l) hnil (hA (w1.alloc (.cells #[.int .i64 m.co,.int .i64 m.fr,.int .i64 m.se,.int .i64 m.c,.int .i64 m.t,.int .i64 m.d,.int .i64 m.p,.int .i64 m.co,.int .i64 m.fr,.int .i64 m.se,.int .i64 m.c,.int .i64 m.t,.int .i64 m.d,.int .i64 m.p,.int .i64 m.co,.int .i64 m.fr,.int .i64 m.se,.int .i64 m.c,.int .i64 m.t,.int .i64 m.d,.int .i64 m.p] 66)) (hBw1.alloc (by omega) _)) (fun u hu=>flatOnePa hu) (by omega) l.length (by omega) (l.flatMap Pa.vals) rfl ?_
   intro w2 how2 hgw2
   have hBw2:Below (w.heap.size+1) (w.alloc (.cells #[.int .i64 m.co,.int .i64 m.fr,.int .i64 m.se,.int .i64 m.c,.int .i64 m.t,.int .i64 m.d,.int .i64 m.p] 66)) w2:=(hBw1.alloc (by omega) _).grown hgw2 (by simp;omega) (by intro q hq;cases hq;omega)
   have hszw2:=hgw2.size
   refine hK.out _ _ (hKeep _ hBw2) (fun hHeld=>?_)
   clear hK K
   simp only[ls0,ls1]
   refine wpAnyH_ready (rs:=[10]) (by kernel_rfl) (by simp) ?_
   refine AllReadyH.cons rfl (fun K hK=>?_) AllReadyH.nil
   refine step_fits rfl 16 rfl (.tmp 11) (.tmp 15) 61 rfl (w.heap.size+1) 66 i0 7 Tryz.underlying61 hi0 hz1 (w.heap.size+1) l.length (l.length+3) (l.flatMap Pa.vals) rfl how2 (some ⟨w1.heap.size,0,none⟩) (3) (3) (marksPa m) rfl rfl (by intro e;cases e) (by intro ad' e j u hj;cases e;exact(hgw2.cell (marksCellsPa w1 m _ rfl j u hj) (by first|(simp[Addr.add_lit];done)|(simp[Addr.add_lit];omega)))) (marksOnePa m) (by omega) (l.length+3) rfl (l.flatMap Pa.vals++marksPa m) rfl ?_
   intro w3 how3 hgw3
   have hBw3:Below (w.heap.size+1) (w.alloc (.cells #[.int .i64 m.co,.int .i64 m.fr,.int .i64 m.se,.int .i64 m.c,.int .i64 m.t,.int .i64 m.d,.int .i64 m.p] 66)) w3:=hBw2.grown hgw3 (by simp at hszw2;omega) (by intro q hq;cases hq;omega)
   have hszw3:=hgw3.size
   refine hK.out _ _ (hKeep _ hBw3) (fun hHeld=>?_)
   clear hK K
   simp only[ls0,ls1]
   refine tqGHU0 (i:=11) (n:=5) (v:=?_) ?_ ?_
   rotate_left 1
   ·intro wz hSw
    first|(go_simp;done)|(go_simp;with_reducible rfl)
   simp only[ls0,ls1]
   refine wpAnyH_done (by kernel_rfl) ?_ _
   refine NoPanic.normal ?_
   go_wp2_with fail
   go_ret
   refine⟨_,rfl,lentOfPa how3,(below_new w (.cells #[.int .i64 m.co,.int .i64 m.fr,.int .i64 m.se,.int .i64 m.c,.int .i64 m.t,.int .i64 m.d,.int .i64 m.p] 66)).trans (hBw3.mono (by omega))⟩
 ·go_simp
  refine hK.out _ _ (hKeep _ (hB0.alloc (by simp) _)) (fun hHeld=>?_)
  clear hK K
  refine wpAnyH_ready (rs:=[3]) (by kernel_rfl) (by simp) ?_
  refine AllReadyH.cons rfl (fun K hK=>?_) AllReadyH.nil
  go_simp
  refine hK.out _ _ (hKeep _ hBv1) (fun hHeld=>?_)
  clear hK K
  refine wpAnyH_ready (rs:=[5]) (by kernel_rfl) (by simp) ?_
  refine AllReadyH.cons rfl (fun K hK=>?_) AllReadyH.nil
  refine step_fits rfl 11 rfl (.tmp 9) (.tmp 10) 61 rfl (w.heap.size+1+1) 66 i0 7 Tryz.underlying61 hi0 hz1 (w.heap.size+1+1) (0) (l.length+3) ([]) rfl ho2 (ad) (l.length) (c) (l.flatMap Pa.vals) rfl (flat_length Pa.vals 7 Pa.len l) hnil (hA v1 hBv1) (fun u hu=>flatOnePa hu) (by omega) l.length (by omega) (l.flatMap Pa.vals) rfl ?_
  intro w2 how2 hgw2
  have hBw2:Below (w.heap.size+1) (w.alloc (.cells #[.int .i64 m.co,.int .i64 m.fr,.int .i64 m.se,.int .i64 m.c,.int .i64 m.t,.int .i64 m.d,.int .i64 m.p] 66)) w2:=hBv1.grown hgw2 (by omega) (by intro q hq;cases hq;omega)
  have hszw2:=hgw2.size
  refine hK.out _ _ (hKeep _ hBw2) (fun hHeld=>?_)
  clear hK K
  simp only[ls0,ls1]
  refine wpAnyH_ready (rs:=[10]) (by kernel_rfl) (by simp) ?_
  refine AllReadyH.cons rfl (fun K hK=>?_) AllReadyH.nil
  refine step_fits rfl 16 rfl (.tmp 11) (.tmp 15) 61 rfl (w.heap.size+1+1) 66 i0 7 Tryz.underlying61 hi0 hz1 (w.heap.size+1+1) l.length (l.length+3) (l.flatMap Pa.vals) rfl how2 (some ⟨w.heap.size+1,0,none⟩) (3) (3) (marksPa m) rfl rfl (by intro e;cases e) (by intro ad' e j u hj;cases e;exact(hgw2.cell (hmk2 j u hj) (by first|(simp[Addr.add_lit];done)|(simp[Addr.add_lit];omega)))) (marksOnePa m) (by omega) (l.length+3) rfl (l.flatMap Pa.vals++marksPa m) rfl ?_
  intro w3 how3 hgw3
  have hBw3:Below (w.heap.size+1) (w.alloc (.cells #[.int .i64 m.co,.int .i64 m.fr,.int .i64 m.se,.int .i64 m.c,.int .i64 m.t,.int .i64 m.d,.int .i64 m.p] 66)) w3:=hBw2.grown hgw3 (by omega) (by intro q hq;cases hq;omega)
  have hszw3:=hgw3.size
  refine hK.out _ _ (hKeep _ hBw3) (fun hHeld=>?_)
  clear hK K
  simp only[ls0,ls1]
  refine tqGHU0 (i:=11) (n:=5) (v:=?_) ?_ ?_
  rotate_left 1
  ·intro wz hSw
   first|(go_simp;done)|(go_simp;with_reducible rfl)
  simp only[ls0,ls1]
  refine wpAnyH_done (by kernel_rfl) ?_ _
  refine NoPanic.normal ?_
  go_wp2_with fail
  go_ret
  refine⟨_,rfl,lentOfPa how3,(below_new w (.cells #[.int .i64 m.co,.int .i64 m.fr,.int .i64 m.se,.int .i64 m.c,.int .i64 m.t,.int .i64 m.d,.int .i64 m.p] 66)).trans (hBw3.mono (by omega))⟩
theorem lent_at{α:Type}{f:α→List Value}{sz:Nat}(hf:∀x,(f x).length=sz){w:World}{l:List α}{m:α}{b o j k:Nat}{u:Value}(h:∀q u,((l++[m,m,m]).flatMap f)[q]?=some u→w.cell? ⟨b,o+q,none⟩=some u)(h1:l.length≤j)(h2:j<l.length+3)(hk:k<sz)(hu:(f m)[k]?=some u):w.cell? ⟨b,o+(j*sz+k),none⟩=some u:=by
 refine h _ _ ((flat_at f sz hf (l++[m,m,m]) j k m ?_ hk).trans hu)
 rw[List.getElem?_append_right h1]
 have:j-l.length=0∨j-l.length=1∨j-l.length=2:=by omega
 rcases this with e|e|e<;>rw[e]<;>rfl
set_option maxRecDepth 20000 in
set_option maxHeartbeats 4000000 in
theorem StillPa_any(w:World)(l:List Pa)(m:Pa)(v v':Value)(hl:l.length≤100000)(h:Lent Pa.vals w l m v)(h':RowSl Pa.vals w l v') :
  Calls Tryz.prog 26 #[v,v',m.val] w fun r w'=>r = .returned (.bool true)∧Below w.heap.size w w':=by
 obtain⟨b,o,cap,rfl,hcap,hrow⟩:=h
 obtain⟨ad',c',rfl,-,-,hc'⟩:=h'
 have HR:Hid (_∧_):=⟨hrow,hc'⟩
 clear hrow hc'
 have HM:Hid (∀w2:World,(∀q u,((l++[m,m,m]).flatMap Pa.vals)[q]?=some u→w2.cell? ⟨b,o+q,none⟩=some u)→∀j,l.length≤j→j<l.length+3→PaAt7 w2 b (o+j*7) m):=fun w2 h j h1 h2=>by
  have key:∀k u,k<7→m.vals[k]?=some u→w2.cell? ⟨b,o+j*7+k,none⟩=some u:=fun k u hk hu=>by
   rw[Nat.add_assoc]
   exact lent_at Pa.len h h1 h2 hk hu
  exact⟨key 0 _ (by omega) rfl,key 1 _ (by omega) rfl,key 2 _ (by omega) rfl,key 3 _ (by omega) rfl,key 4 _ (by omega) rfl,key 5 _ (by omega) rfl,key 6 _ (by omega) rfl⟩
 obtain⟨mco,mfr,mse,mc,mt,md,mp⟩:=m
 unfold Pa.val
 dsimp only
 go_enter Tryz.func26,Tryz.ntmps26
 go_wp2_with fail
 go_loopw [17] (fun x wr=>∃j:Nat,j≤l.length+3∧x = .int .i64 j∧Below (w.heap.size+1) (w.alloc (.cells #[.int .i64 mco,.int .i64 mfr,.int .i64 mse,.int .i64 mc,.int .i64 mt,.int .i64 md,.int .i64 mp] 66)) wr) (fun x _=>l.length+3-(intOf x).toNat)
 case atStart=>exact⟨0,Nat.zero_le _,rfl,Below.refl _ _⟩
 case round =>
  obtain⟨j,hj,rfl,hb⟩:=hrel
  have hbw:Below w.heap.size w wr:=(below_new w (.cells #[.int .i64 mco,.int .i64 mfr,.int .i64 mse,.int .i64 mc,.int .i64 mt,.int .i64 md,.int .i64 mp] 66)).trans (hb.mono (by omega))
  have m_0:wr.cell? ⟨w.heap.size,0,none⟩=some (.int .i64 mco):=(hb.cell (by show w.heap.size<w.heap.size+1;omega)).trans (by go_simp)
  have m_1:wr.cell? ⟨w.heap.size,1,none⟩=some (.int .i64 mfr):=(hb.cell (by show w.heap.size<w.heap.size+1;omega)).trans (by go_simp)
  have m_2:wr.cell? ⟨w.heap.size,2,none⟩=some (.int .i64 mse):=(hb.cell (by show w.heap.size<w.heap.size+1;omega)).trans (by go_simp)
  have m_3:wr.cell? ⟨w.heap.size,3,none⟩=some (.int .i64 mc):=(hb.cell (by show w.heap.size<w.heap.size+1;omega)).trans (by go_simp)
  have m_4:wr.cell? ⟨w.heap.size,4,none⟩=some (.int .i64 mt):=(hb.cell (by show w.heap.size<w.heap.size+1;omega)).trans (by go_simp)
  have m_5:wr.cell? ⟨w.heap.size,5,none⟩=some (.int .i64 md):=(hb.cell (by show w.heap.size<w.heap.size+1;omega)).trans (by go_simp)
  have m_6:wr.cell? ⟨w.heap.size,6,none⟩=some (.int .i64 mp):=(hb.cell (by show w.heap.size<w.heap.size+1;omega)).trans (by go_simp)
  have lw:w.heap.size<wr.heap.size:=World.block_lt_of_cell? _ _ m_0
  have HB:Hid (Below (w.heap.size+1) (w.alloc (.cells #[.int .i64 mco,.int .i64 mfr,.int .i64 mse,.int .i64 mc,.int .i64 mt,.int .i64 md,.int .i64 mp] 66)) wr):=hb
  by_cases hlt:j<l.length
  ·obtain⟨x,hx,-⟩:=drop_at hlt
   have c:=paAt_of (fun q u hq=>below_cell hbw (HR.out.1 q u hq)) (show(l++_)[j]?=some x by rw[List.getElem?_append_left hlt];exact hx)
   rcases HR.out.2 with h|⟨b',o',had',hrow'⟩
   ·rw[h]at hlt;simp at hlt
   subst had'
   have d:=paAt_of (fun q u hq=>below_cell hbw (hrow' q u hq)) hx
   obtain⟨c0,c1,c2,c3,c4,c5,c6⟩:=c
   obtain⟨d0,d1,d2,d3,d4,d5,d6⟩:=d
   have lb':b'<wr.heap.size:=World.block_lt_of_cell? _ _ d0
   have f1:decide ((j:Int)<(l.length:Int))=true:=by simp;omega
   have f1':decide (j<l.length)=true:=by simp;omega
   have f2:decide ((l.length:Int)≤(j:Int))=false:=by simp;omega
   have f2':decide (l.length≤j)=false:=by simp;omega
   clear hrow' hb hbw hx
   obtain⟨xco,xfr,xse,xc,xt,xd,xp⟩:=x
   dsimp only at c0 c1 c2 c3 c4 c5 c6 d0 d1 d2 d3 d4 d5 d6
   go_wp2_with fail
   go_quiet (fail)
   go_wp2_with fail
   go_roundw
   case rel=>exact⟨j+1,by omega,by go_num,(HB.out.alloc (by omega) _).trans ((below_drewN').mono (by simp;omega))⟩
   case measure=>simp[intOf];omega
  ·by_cases hlt2:j<l.length+3
   ·have c:=HM.out wr (fun q u hq=>below_cell hbw (HR.out.1 q u hq)) j (by omega) hlt2
    obtain⟨c0,c1,c2,c3,c4,c5,c6⟩:=c
    have f1:decide ((j:Int)<(l.length:Int))=false:=by simp;omega
    have f1':decide (j<l.length)=false:=by simp;omega
    have f2:decide ((l.length:Int)≤(j:Int))=true:=by simp;omega
    have f2':decide (l.length≤j)=true:=by simp;omega
    clear hb hbw
    dsimp only at c0 c1 c2 c3 c4 c5 c6
    go_wp2_with fail
    go_quiet (fail)
    go_wp2_with fail
    go_roundw
    case rel=>exact⟨j+1,by omega,by go_num,(HB.out.alloc (by omega) _).trans ((below_drewN').mono (by simp;omega))⟩
    case measure=>simp[intOf];omega
   ·have hje:j=l.length+3:=by omega
    subst hje
    go_wp2_with fail
    go_ret
    exact⟨rfl,hbw⟩
end Go.Proofs.YtccoobcggbbcialGreatDoor
