import Derived.Test.YtnkgbkkakokciacDoorGBNode
import Derived.Test.YtnkgbkkakokciacDoorGBWs
import Derived.Test.YtnkgbkkakokciacDoorGBCheckR
namespace Go.Proofs.YtnkgbkkakokciacDoor.B
mutual
def Ex.all:Ex→List Ex
 | .mk k n a=>.mk k n a::Ex.allL a
def Ex.allL:List Ex→List Ex
 | []=>[]
 | x::r=>x.all++Ex.allL r
end
def Cut (m:Nat) (l full:List Ex):Prop:=l=full∨(m<l.length∧∃ r,full=l++r)
mutual
theorem Ex.pre_cut (m:Nat):∀ e:Ex,Cut m (e.pre m) e.all
 | .mk k n a=>by
  have:=Ex.preAll_cut m a [.mk k n a]
  unfold Ex.pre Ex.all
  simpa using this
theorem Ex.preAll_cut (m:Nat):∀ (a l:List Ex),Cut m (Ex.preAll m a l) (l++Ex.allL a)
 | [],l=>by unfold Ex.preAll Ex.allL;left;simp
 | x::r,l=>by
  unfold Ex.preAll Ex.allL
  split
  ·rename_i h
   exact .inr ⟨h,_,rfl⟩
  ·rcases Ex.pre_cut m x with hx | ⟨hx,q,hq⟩
   ·have:=Ex.preAll_cut m r (l++x.pre m)
    rw [hx] at this ⊢
    simpa using this
   ·have hl:m<(l++x.pre m).length:=by simp;omega
    have e:Ex.preAll m r (l++x.pre m)=l++x.pre m:=by
     cases r with
     | nil=>unfold Ex.preAll;rfl
     | cons y r=>unfold Ex.preAll;rw [if_pos hl]
    rw [e]
    exact .inr ⟨hl,q++Ex.allL r,by rw [hq];simp⟩
end
theorem wrongL_prefix:∀ (l r:List Ex) (j:Nat),30<l.length+j→j≤30→wrongL (l++r) j=wrongL l j
 | [],r,j,h,hj=>by simp at h;omega
 | x::l,r,j,h,hj=>by
  simp only [List.cons_append,wrongL]
  by_cases h30:j=30
  ·rw [if_pos h30,if_pos h30]
  ·rw [if_neg h30,if_neg h30]
   by_cases hx:x.err≠0
   ·rw [if_pos hx,if_pos hx]
   ·rw [if_neg hx,if_neg hx]
    exact wrongL_prefix l r (j+1) (by simp at h;omega) (by omega)
mutual
theorem Ex.node_all:∀ (e:Ex) (c:Nat) (rest:List Ex),c≤30→wrongL (e.all++rest) c=if (e.node c).1≠0 then (e.node c).1 else wrongL rest (e.node c).2
 | .mk k n a,c,rest,hc=>by
  unfold Ex.all Ex.node
  simp only [List.cons_append,wrongL]
  by_cases h30:c=30
  ·rw [if_pos h30,if_pos (show 30<c+1 by omega)]
   simp
  ·rw [if_neg h30,if_neg (show ¬ 30<c+1 by omega)]
   by_cases hx:(Ex.mk k n a).err≠0
   ·rw [if_pos hx,if_pos hx]
    simp [hx]
   ·rw [if_neg hx,if_neg hx]
    exact Ex.nodeAll_all a (c+1) rest (by omega)
theorem Ex.nodeAll_all:∀ (a:List Ex) (c:Nat) (rest:List Ex),c≤30→wrongL (Ex.allL a++rest) c=if (Ex.nodeAll a c).1≠0 then (Ex.nodeAll a c).1 else wrongL rest (Ex.nodeAll a c).2
 | [],c,rest,hc=>by unfold Ex.allL Ex.nodeAll;simp
 | x::r,c,rest,hc=>by
  unfold Ex.allL Ex.nodeAll
  rw [List.append_assoc,Ex.node_all x c _ hc]
  by_cases hx:(x.node c).1≠0
  ·rw [if_pos hx,if_pos hx,if_pos hx]
  ·rw [if_neg hx,if_neg hx]
   exact Ex.nodeAll_all r _ rest (Ex.node_le x c (by simpa using hx))
end
theorem Ex.node_wrong (e:Ex):(e.node 0).1=wrongL (e.pre 31) 0:=by
 have h1:=Ex.node_all e 0 [] (by omega)
 rw [List.append_nil] at h1
 have h2:wrongL e.all 0=wrongL (e.pre 31) 0:=by
  rcases Ex.pre_cut 31 e with h | ⟨h,r,hr⟩
  ·rw [h]
  ·rw [hr];exact wrongL_prefix _ r 0 (by omega) (by omega)
 rw [← h2,h1]
 by_cases hx:(e.node 0).1≠0
 ·rw [if_pos hx]
 ·rw [if_neg hx]
  have:(e.node 0).1=0:=by simpa using hx
  rw [this,wrongL]
end Go.Proofs.YtnkgbkkakokciacDoor.B
namespace Go.Proofs.YtnkgbkkakokciacDoor.B
def valK (k:Int):Bool:=decide (k=1∨k=2)
def conK (k:Int):Bool:=decide (k=3∨k=5)
def innK (k:Int):Bool:=decide (3≤k∧k≤6)
def othK (k:Int):Bool:=decide (k=3)
def progErr (k n:Int) (eN:Bool) (nE ck:Int) (aN bN:Bool) (nC:Int) (ly ll:Nat) (d:Int) (lk:Bool):Int :=
 if k<1∨8≤k then 6
 else if ¬ (lowN k≤n∧n≤highN k) then 3
 else if moreS (valK k) (conK k) (innK k) (othK k) eN ck aN bN ly ll=true then 6
 else if valK k=true∧nE≠0 then nE
 else if conK k=true∧nC≠0 then nC
 else if innK k=true∧¬ d<6 then 2
 else if k=6∧lk=true then 10
 else 0
theorem prog_st (k n:Int) (eN:Bool) (wE ck:Int) (aN bN:Bool) (wA wB:Int) (ly ll:Nat) (d:Int) (lk:Bool) :
  progErr k n eN wE ck aN bN (if ck<1∨4<ck then 6 else if wA≠0 then wA else wB) ly ll d lk=stErr k n eN wE ck aN bN wA wB ly ll d lk:=by
 by_cases hk:k<1∨8≤k
 ·unfold progErr stErr
  rw [if_pos hk,if_pos (by omega)]
 ·have hk7:k=1∨k=2∨k=3∨k=4∨k=5∨k=6∨k=7:=by omega
  rcases hk7 with rfl | rfl | rfl | rfl | rfl | rfl | rfl
  ·rw [stErr_1];unfold progErr;simp [valK,conK,innK,othK,lowN,highN,moreS];grind
  ·rw [stErr_2];unfold progErr;simp [valK,conK,innK,othK,lowN,highN,moreS];grind
  ·rw [stErr_3];unfold progErr;simp [valK,conK,innK,othK,lowN,highN,moreS];grind
  ·rw [stErr_4];unfold progErr;simp [valK,conK,innK,othK,lowN,highN,moreS];grind
  ·rw [stErr_5];unfold progErr;simp [valK,conK,innK,othK,lowN,highN,moreS];grind
  ·rw [stErr_6];unfold progErr;simp [valK,conK,innK,othK,lowN,highN,moreS];grind
  ·rw [stErr_7];unfold progErr;simp [valK,conK,innK,othK,lowN,highN,moreS];grind
def St.perr:St→List (Int × Int)→Int
 | .mk k n e ck ca cb b l,ar=>progErr k n (exNone e.k e.n e.a.length) (e.node 0).1 ck (exNone ca.k ca.n ca.a.length) (exNone cb.k cb.n cb.a.length) (condErr ck ca cb) b.length l.length ar.length (decide ((6,n) ∈ ar))
mutual
def St.chk:St→List (Int × Int)→Int→Int × Int
 | .mk k n e ck ca cb b l,ar,i =>
  if (St.mk k n e ck ca cb b l).perr ar≠0 then ((St.mk k n e ck ca cb b l).perr ar,i+1)
  else if (St.chkAll b (ar++[(k,n)]) (i+1)).1≠0 then St.chkAll b (ar++[(k,n)]) (i+1)
  else St.chkAll l (ar++[(k,n)]) (St.chkAll b (ar++[(k,n)]) (i+1)).2
def St.chkAll:List St→List (Int × Int)→Int→Int × Int
 | [],_,i=>(0,i)
 | s::r,ar,i=>if (s.chk ar i).1≠0 then s.chk ar i else St.chkAll r ar (s.chk ar i).2
end
def locksOf (ar:List (Int × Int)):List Int:=(ar.filter fun x=>x.1=6).map (·.2)
theorem locksOf_snoc (ar:List (Int × Int)) (k n:Int):locksOf (ar++[(k,n)])=locksIn k n (locksOf ar):=by
 unfold locksOf locksIn
 by_cases h:k=6 <;> simp [h]
theorem mem_locksOf (ar:List (Int × Int)) (n:Int):n ∈ locksOf ar ↔ (6,n) ∈ ar:=by
 unfold locksOf
 simp
theorem perr_err (s:St) (ar:List (Int × Int)):s.perr ar=Fl.err ⟨s,ar.length,locksOf ar⟩:=by
 obtain ⟨k,n,e,ck,ca,cb,b,l⟩:=s
 show progErr k n (exNone e.k e.n e.a.length) (e.node 0).1 ck (exNone ca.k ca.n ca.a.length) (exNone cb.k cb.n cb.a.length) (condErr ck ca cb) b.length l.length ar.length (decide ((6,n) ∈ ar)) =
  stErr k n (exNone e.k e.n e.a.length) (wrongL (e.pre 31) 0) ck (exNone ca.k ca.n ca.a.length) (exNone cb.k cb.n cb.a.length) (wrongL (ca.pre 31) 0) (wrongL (cb.pre 31) 0) b.length l.length ar.length (decide (n ∈ locksOf ar))
 unfold condErr
 rw [Ex.node_wrong,Ex.node_wrong,Ex.node_wrong,prog_st]
 congr 1
 exact decide_eq_decide.2 (mem_locksOf ar n).symm
theorem firstErr_cons (f:Fl) (r:List Fl) (j:Nat):firstErr (f::r) j=if f.err≠0 then (f.err,(j:Int)) else firstErr r (j+1):=rfl
mutual
theorem St.chk_flat:∀ (s:St) (ar:List (Int × Int)) (j:Nat) (rest:List Fl),firstErr (s.flat ar.length (locksOf ar)++rest) j=if (s.chk ar ((j:Int) - 1)).1≠0 then s.chk ar ((j:Int) - 1) else firstErr rest (j+s.count)
 | .mk k n e ck ca cb b l,ar,j,rest=>by
  have hp:=perr_err (.mk k n e ck ca cb b l) ar
  have hj:((j:Int) - 1)+1=j:=by omega
  unfold St.flat St.chk
  rw [List.cons_append,firstErr_cons,← hp,hj]
  by_cases h0:(St.mk k n e ck ca cb b l).perr ar≠0
  ·rw [if_pos h0,if_pos h0,if_pos h0]
  ·rw [if_neg h0,if_neg h0]
   have hl:((ar.length:Int)+1)=((ar++[(k,n)]).length:Int):=by simp
   rw [hl,← locksOf_snoc,List.append_assoc]
   have h1:=St.chkAll_flat b (ar++[(k,n)]) (j+1) (St.flatAll l ((ar++[(k,n)]).length:Int) (locksOf (ar++[(k,n)]))++rest)
   have e1:(((j+1:Nat):Int) - 1)=j:=by omega
   rw [e1] at h1
   rw [h1]
   have hc:=St.chkAll_at b (ar++[(k,n)]) j
   by_cases hb:(St.chkAll b (ar++[(k,n)]) j).1≠0
   ·rw [if_pos hb,if_pos hb,if_pos hb]
   ·rw [if_neg hb,if_neg hb]
    have h2:=St.chkAll_flat l (ar++[(k,n)]) (j+1+St.countAll b) rest
    rw [h2]
    have e2:((j+1+St.countAll b:Nat):Int) - 1=(St.chkAll b (ar++[(k,n)]) j).2:=by
     rw [hc (by simpa using hb)];omega
    rw [e2]
    have e3:j+1+St.countAll b+St.countAll l=j+(St.mk k n e ck ca cb b l).count:=by simp only [St.count];omega
    rw [e3]
theorem St.chkAll_flat:∀ (a:List St) (ar:List (Int × Int)) (j:Nat) (rest:List Fl),firstErr (St.flatAll a ar.length (locksOf ar)++rest) j=if (St.chkAll a ar ((j:Int) - 1)).1≠0 then St.chkAll a ar ((j:Int) - 1) else firstErr rest (j+St.countAll a)
 | [],ar,j,rest=>by unfold St.flatAll St.chkAll;simp [St.countAll]
 | s::r,ar,j,rest=>by
  unfold St.flatAll St.chkAll
  rw [List.append_assoc,St.chk_flat s ar j _]
  have hc:=St.chk_at s ar ((j:Int) - 1)
  by_cases hs:(s.chk ar ((j:Int) - 1)).1≠0
  ·rw [if_pos hs,if_pos hs,if_pos hs]
  ·rw [if_neg hs,if_neg hs,St.chkAll_flat r ar (j+s.count) rest]
   have e2:((j+s.count:Nat):Int) - 1=(s.chk ar ((j:Int) - 1)).2:=by
    rw [hc (by simpa using hs)];omega
   rw [e2]
   have e3:j+s.count+St.countAll r=j+St.countAll (s::r):=by simp only [St.countAll];omega
   rw [e3]
theorem St.chk_at:∀ (s:St) (ar:List (Int × Int)) (i:Int),(s.chk ar i).1=0→(s.chk ar i).2=i+s.count
 | .mk k n e ck ca cb b l,ar,i,h=>by
  unfold St.chk at h ⊢
  by_cases h0:(St.mk k n e ck ca cb b l).perr ar≠0
  ·rw [if_pos h0] at h;exact absurd h h0
  ·rw [if_neg h0] at h ⊢
   by_cases hb:(St.chkAll b (ar++[(k,n)]) (i+1)).1≠0
   ·rw [if_pos hb] at h;exact absurd h hb
   ·rw [if_neg hb] at h ⊢
    rw [St.chkAll_at l _ _ h,St.chkAll_at b _ _ (by simpa using hb)]
    simp only [St.count]
    omega
theorem St.chkAll_at:∀ (a:List St) (ar:List (Int × Int)) (i:Int),(St.chkAll a ar i).1=0→(St.chkAll a ar i).2=i+St.countAll a
 | [],ar,i,_=>by simp [St.chkAll,St.countAll]
 | s::r,ar,i,h=>by
  unfold St.chkAll at h ⊢
  by_cases hs:(s.chk ar i).1≠0
  ·rw [if_pos hs] at h;exact absurd h hs
  ·rw [if_neg hs] at h ⊢
   rw [St.chkAll_at r _ _ h,St.chk_at s _ _ (by simpa using hs)]
   simp only [St.countAll]
   omega
end
theorem chk_body (a:List St):firstErr (St.flatAll a 0 []) 0=if (St.chkAll a [] (-1)).1≠0 then St.chkAll a [] (-1) else (0,0):=by
 have h:=St.chkAll_flat a [] 0 []
 simp only [List.append_nil] at h
 exact h
end Go.Proofs.YtnkgbkkakokciacDoor.B
namespace Go.Proofs.YtnkgbkkakokciacDoor.B
open Go.ChangeShapes Go.WideShapes Go.ChangeAt Go.RowKit
def StShape (x:Nat→Value) (k n:Int):Prop:=∃ ek en ead em ec ck ak an aad am ac bk bn bad bm bc yad ym yc lad lm lc,
 x 0 = .int .i64 k∧x 1 = .int .i64 n∧x 2 = .int .i64 ek∧x 3 = .int .i64 en∧x 4 = .slice ead em ec∧x 5 = .int .i64 ck∧x 6 = .int .i64 ak∧x 7 = .int .i64 an∧x 8 = .slice aad am ac ∧
 x 9 = .int .i64 bk∧x 10 = .int .i64 bn∧x 11 = .slice bad bm bc∧x 12 = .slice yad ym yc∧x 13 = .slice lad lm lc
def ArCells:List (Int × Int)→List Value→Prop
 | [],xs=>xs=[]
 | p::r,xs=>∃ x:Nat→Value,∃ ys,StShape x p.1 p.2∧xs=[x 0,x 1,x 2,x 3,x 4,x 5,x 6,x 7,x 8,x 9,x 10,x 11,x 12,x 13]++ys∧ArCells r ys
theorem ArCells.get:∀ (ar:List (Int × Int)) {xs:List Value},ArCells ar xs→∀ (j:Nat) (p:Int × Int),ar[j]?=some p→∃ x:Nat→Value,StShape x p.1 p.2∧∀ i,i<14→xs[j*14+i]?=some (x i)
 | [],_,_,_,_,h=>by simp at h
 | e::r,xs,h,0,p,hp=>by
  obtain ⟨x,ys,h1,rfl,h2⟩:=h
  simp at hp
  subst hp
  refine ⟨x,h1,fun i hi=>?_⟩
  match i,hi with
  | 0,_ | 1,_ | 2,_ | 3,_ | 4,_ | 5,_ | 6,_ | 7,_ | 8,_ | 9,_ | 10,_ | 11,_ | 12,_ | 13,_=>rfl
 | e::r,xs,h,j+1,p,hp=>by
  obtain ⟨x,ys,h1,rfl,h2⟩:=h
  obtain ⟨x',g1,g2⟩:=ArCells.get r h2 j p (by simpa using hp)
  refine ⟨x',g1,fun i hi=>?_⟩
  have e0:([x 0,x 1,x 2,x 3,x 4,x 5,x 6,x 7,x 8,x 9,x 10,x 11,x 12,x 13]++ys)[(j+1)*14+i]?=ys[j*14+i]?:=by
   rw [List.getElem?_append_right (by simp;omega)]
   congr 1
   simp
   omega
  rw [e0]
  exact g2 i hi
theorem ArCells.snoc {x:Nat→Value} {k n:Int} (hx:StShape x k n):∀ (ar:List (Int × Int)) {xs:List Value},ArCells ar xs→ArCells (ar++[(k,n)]) (xs++[x 0,x 1,x 2,x 3,x 4,x 5,x 6,x 7,x 8,x 9,x 10,x 11,x 12,x 13])
 | [],xs,h=>by
  unfold ArCells at h
  subst h
  exact ⟨x,[],hx,by simp,rfl⟩
 | p::r,xs,h=>by
  obtain ⟨x',ys,h1,rfl,h2⟩:=h
  exact ⟨x',_,h1,by simp,ArCells.snoc hx r h2⟩
theorem ArCells.len:∀ (ar:List (Int × Int)) {xs:List Value},ArCells ar xs→xs.length=ar.length*14
 | [],_,h=>by unfold ArCells at h;subst h;rfl
 | p::r,xs,h=>by
  obtain ⟨x',ys,h1,rfl,h2⟩:=h
  have:=ArCells.len r h2
  simp;omega
structure Wk (w:World) (wb B:Nat) (i:Int) (v:Value) (ar:List (Int × Int)):Prop where
 blk:w.heap[wb]?=some (.cells #[.int .i64 i,v] 159 (0,0))
 owns:∃ xs,w.ownsRow B 123 14 v ar.length xs∧ArCells ar xs
 lt:wb<B
 le:B≤w.heap.size
structure WR (wb:Nat) (w w':World) (v v':Value):Prop where
 os:w'.os=w.os
 tape:w'.tape=w.tape
 output:w'.output=w.output
 size:w.heap.size≤w'.heap.size
 block:∀ k,k<w.heap.size→k≠wb→some k≠v.ownBlock→w'.heap[k]?=w.heap[k]?
 own:v'.ownBlock=v.ownBlock∨∀ k,v'.ownBlock=some k→w.heap.size≤k
theorem WR.refl (wb:Nat) (w:World) (v:Value):WR wb w w v v:=⟨rfl,rfl,rfl,Nat.le_refl _,fun _ _ _ _=>rfl,.inl rfl⟩
theorem WR.trans {wb:Nat} {a b c:World} {u v x:Value} (h:WR wb a b u v) (h':WR wb b c v x):WR wb a c u x:=by
 refine ⟨h'.os.trans h.os,h'.tape.trans h.tape,h'.output.trans h.output,Nat.le_trans h.size h'.size,fun k hk h1 h2=>?_,?_⟩
 ·refine (h'.block k (by have:=h.size;omega) h1 fun e=>?_).trans (h.block k hk h1 h2)
  rcases h.own with ho | ho
  ·exact h2 (e.trans ho)
  ·have:=ho k e.symm;omega
 ·rcases h'.own with ho' | ho'
  ·rw [ho'];exact h.own
  ·right;intro k hk;have:=ho' k hk;have:=h.size;omega
theorem WR.of_below {wb:Nat} {a b:World} {v:Value} (h:Below a.heap.size a b):WR wb a b v v:=⟨h.os,h.tape,h.output,h.size,fun k hk _ _=>h.block k hk,.inl rfl⟩
theorem Wk.own_lt {w:World} {wb B:Nat} {i:Int} {v:Value} {ar:List (Int × Int)} (h:Wk w wb B i v ar):∀ k,v.ownBlock=some k→B≤k∧k<w.heap.size:=by
 obtain ⟨xs,ho,_⟩:=h.owns
 exact ho.lt
theorem Wk.below {w w':World} {wb B:Nat} {i:Int} {v:Value} {ar:List (Int × Int)} (h:Wk w wb B i v ar) (hb:Below w.heap.size w w'):Wk w' wb B i v ar:=by
 obtain ⟨xs,ho,hc⟩:=h.owns
 exact ⟨(hb.block wb (Array.getElem?_eq_some_iff.1 h.blk).1).trans h.blk,⟨xs,ownsRow_below ho hb,hc⟩,h.lt,Nat.le_trans h.le hb.size⟩
theorem WR.low {wb B:Nat} {w0 w w':World} {i:Int} {v v':Value} {ar:List (Int × Int)} (h:WR wb w w' v v') (hk:Wk w wb B i v ar) (hw:w0.heap.size≤wb) (hb:Below w0.heap.size w0 w):Below w0.heap.size w0 w':=by
 refine hb.trans ⟨h.os,h.tape,h.output,h.size,fun k hk'=>h.block k (by have:=hb.size;omega) (by omega) fun e=>?_⟩
 have:=(hk.own_lt k e.symm).1
 have:=hk.lt
 omega
theorem WR.cell {wb:Nat} {w w':World} {v v':Value} (h:WR wb w w' v v') {p o:Nat} {x:Value} (hp:p≠wb) (hq:some p≠v.ownBlock) (hc:w.cell? ⟨p,o,none⟩=some x):w'.cell? ⟨p,o,none⟩=some x :=
 (World.cell?_of_block (h.block p (World.block_lt_of_cell? _ _ hc) hp hq)).trans hc
theorem WR.off {wb:Nat} {w w':World} {v v':Value} (h:WR wb w w' v v') {p:Nat} (hl:p<w.heap.size) (hq:some p≠v.ownBlock):some p≠v'.ownBlock:=by
 intro e
 rcases h.own with ho | ho
 ·exact hq (e.trans ho)
 ·have:=ho p e.symm;omega
set_option maxHeartbeats 2000000 in
theorem held_any (w:World) (wb B:Nat) (i n:Int) (v:Value) (ar:List (Int × Int)) (hk:Wk w wb B i v ar) (hl:ar.length≤4194304) :
  Calls Tryd.prog 142 #[.pointer (some ⟨wb,0,none⟩),.int .i64 n] w fun r w'=>r = .returned (.bool (decide ((6,n) ∈ ar)))∧Below w.heap.size w w':=by
 obtain ⟨xs,ho,hac⟩:=hk.owns
 obtain ⟨vad,vcap,rfl⟩:=owns_value ho
 have b0:w.cell? ⟨wb,0,none⟩=some (.int .i64 i):=by unfold World.cell?;rw [hk.blk];rfl
 have b1:w.cell? ⟨wb,1,none⟩=some (.slice vad ar.length vcap):=by unfold World.cell?;rw [hk.blk];rfl
 have HH:Hid (_∧_):=⟨ho,hac⟩
 clear ho hac hk
 go_enter Tryd.func142,Tryd.ntmps142
 go_wp2_with fail
 go_loopw [6,12] (fun _ c wr=>∃ j:Nat,j≤ar.length∧c = .int .i64 j∧(6,n) ∉ ar.take j∧Below w.heap.size w wr) (fun _ c _=>ar.length - (intOf c).toNat)
 case atStart=>exact ⟨0,Nat.zero_le _,rfl,by simp,Below.refl _ _⟩
 case round =>
  obtain ⟨j,hj,rfl,hni,hb⟩:=hrel
  by_cases hlt:j<ar.length
  ·obtain ⟨g,cap,hv,-,hcell⟩:=getCell HH.out.1 (by omega)
   cases hv
   obtain ⟨x,hsh,hx⟩:=ArCells.get ar HH.out.2 j ar[j] (by simp [hlt])
   obtain ⟨ek,en,ead,em,ec,ck,ak,an,aad,am,ac,bk,bn,bad,bm,bc,yad,ym,yc,lad,lm,lc,g0,g1,g2,g3,g4,g5,g6,g7,g8,g9,g10,g11,g12,g13⟩:=hsh
   have cell:∀ q,q<14→wr.cell? ⟨g,j*14+q,none⟩=some (x q):=fun q hq=>by
    have:=below_cell hb (hcell _ _ (hx q hq))
    rwa [show 0+(j*14+q)=j*14+q by omega] at this
   have k0:=cell 0 (by omega)
   have k1:=cell 1 (by omega)
   have k2:=cell 2 (by omega)
   have k3:=cell 3 (by omega)
   have k4:=cell 4 (by omega)
   have k5:=cell 5 (by omega)
   have k6:=cell 6 (by omega)
   have k7:=cell 7 (by omega)
   have k8:=cell 8 (by omega)
   have k9:=cell 9 (by omega)
   have k10:=cell 10 (by omega)
   have k11:=cell 11 (by omega)
   have k12:=cell 12 (by omega)
   have k13:=cell 13 (by omega)
   rw [Nat.add_zero,g0] at k0
   rw [g1] at k1
   rw [g2] at k2
   rw [g3] at k3
   rw [g4] at k4
   rw [g5] at k5
   rw [g6] at k6
   rw [g7] at k7
   rw [g8] at k8
   rw [g9] at k9
   rw [g10] at k10
   rw [g11] at k11
   rw [g12] at k12
   rw [g13] at k13
   clear g0 g1 g2 g3 g4 g5 g6 g7 g8 g9 g10 g11 g12 g13 cell hx hcell
   have htk:=List.take_succ_eq_append_getElem hlt
   have hmem:ar[j] ∈ ar:=List.getElem_mem hlt
   have HB:Hid _:=hb
   by_cases he:ar[j]=(6,n)
   ·have hm:Hid ((6,n) ∈ ar):=by rw [← he];exact hmem
    rw [he] at k0 k1
    clear hni htk hmem hb he
    go_wp2_with fail
    go_ret
    exact ⟨ret_bool (by rw [decide_eq_true hm.out]),HB.out.alloc HB.out.size _⟩
   ·have HN:Hid ((6,n) ∉ ar.take (j+1)):=by
     rw [htk]
     simp only [List.mem_append,List.mem_singleton,not_or]
     exact ⟨hni,fun h=>he h.symm⟩
    have hkn:¬ (ar[j].1=6∧ar[j].2=n):=fun h=>he (by rw [Prod.ext_iff];exact h)
    clear hni htk hmem hb he
    generalize ar[j].1=pk at *
    generalize ar[j].2=pn at *
    by_cases h6:pk=6
    ·have hne:(pn == n)=false:=by simp;exact fun h=>hkn ⟨h6,h⟩
     subst h6
     clear hkn
     go_wp2_with fail
     go_roundw
     case rel=>exact ⟨j+1,by omega,by go_num,HN.out,HB.out.alloc HB.out.size _⟩
     case measure=>simp [intOf];omega
    ·have h6':(pk == 6)=false:=by simpa using h6
     clear hkn h6
     go_wp2_with fail
     go_roundw
     case rel=>exact ⟨j+1,by omega,by go_num,HN.out,HB.out.alloc HB.out.size _⟩
     case measure=>simp [intOf];omega
  ·have hm:Hid ((6,n) ∉ ar):=by rw [List.take_of_length_le (by omega)] at hni;exact hni
   have HB:Hid _:=hb
   clear hni hb
   go_wp2_with fail
   go_ret
   exact ⟨ret_bool (by rw [decide_eq_false hm.out]),HB.out⟩
end Go.Proofs.YtnkgbkkakokciacDoor.B
