import Derived.Test.YtnkgbkkakokciacDoorGRB
import Derived.Test.YtnkgbkkakokciacDoorGBTwin
import Derived.Laws.OwnMore
import Derived.Maps.AppendAt
import Derived.Deep.DeepCutAuto
import Derived.Deep.CutRange
import Derived.Deep.RegionHeldLaw
import Derived.Laws.MakeOwn
import Derived.Test.YtnkgbkkakokciacDoorGBWorth
namespace Go.Proofs.YtnkgbkkakokciacDoor.B
open Go.ChangeShapes Go.WideShapes Go.ChangeAt Go.RowKit
theorem Wk.free {w:World} {wb B:Nat} {i:Int} {v:Value} {ar:List (Int × Int)} (h:Wk w wb B i v ar):some wb≠v.ownBlock:=by
 intro e
 have:=(h.own_lt wb e.symm).1
 have:=h.lt
 omega
theorem Wk.push {W w':World} {wb B:Nat} {i k n:Int} {v v':Value} {ar:List (Int × Int)} {x:Nat→Value} {xs:List Value} (hk:Wk W wb B i v ar) (hx:StShape x k n) (hac:ArCells ar xs)
  (ho:w'.ownsRow B 123 14 v' (ar.length+1) (xs++[x 0,x 1,x 2,x 3,x 4,x 5,x 6,x 7,x 8,x 9,x 10,x 11,x 12,x 13])) (hg:W.grownBy w' v.ownBlock) (hv:v'.ownBlock=v.ownBlock∨∀ k,v'.ownBlock=some k→W.heap.size≤k) :
  Wk (w'.setCell ⟨wb,1,none⟩ v') wb B i v' (ar++[(k,n)])∧WR wb W (w'.setCell ⟨wb,1,none⟩ v') v v':=by
 have hlt:wb<W.heap.size:=(Array.getElem?_eq_some_iff.1 hk.blk).1
 have hb:w'.heap[wb]?=some (.cells #[.int .i64 i,v] 159 (0,0)):=(hg.block wb hlt hk.free).trans hk.blk
 have hs:(w'.setCell ⟨wb,1,none⟩ v').heap.size=w'.heap.size:=by simp [World.setCell]
 refine ⟨⟨by simpa using setCell_at (i:=1) (u:=v') hb,⟨_,?_,ArCells.snoc hx ar hac⟩,hk.lt,?_⟩,⟨hg.os,hg.tape,hg.output,?_,fun k hk1 h1 h2=>?_,hv⟩⟩
 ·rw [List.length_append]
  exact ownsRow_setCell_below ho (by show wb<B;exact hk.lt) _
 ·rw [hs];exact Nat.le_trans hk.le hg.size
 ·rw [hs];exact hg.size
 ·rw [Below.heap_setCell _ _ _ _ (by simpa using h1)]
  exact hg.block k hk1 h2
theorem Wk.pop {W:World} {wb B g cap:Nat} {i:Int} {p:Int × Int} {ar:List (Int × Int)} (hk:Wk W wb B i (.slice (some ⟨g,0,none⟩) (ar.length+1) cap) (ar++[p])) :
  Wk (W.setCell ⟨wb,1,none⟩ (.slice (some ⟨g,0,none⟩) ar.length cap)) wb B i (.slice (some ⟨g,0,none⟩) ar.length cap) ar ∧
  WR wb W (W.setCell ⟨wb,1,none⟩ (.slice (some ⟨g,0,none⟩) ar.length cap)) (.slice (some ⟨g,0,none⟩) (ar.length+1) cap) (.slice (some ⟨g,0,none⟩) ar.length cap):=by
 have hs:(W.setCell ⟨wb,1,none⟩ (.slice (some ⟨g,0,none⟩) ar.length cap)).heap.size=W.heap.size:=by simp [World.setCell]
 obtain ⟨xs,ho,hac⟩:=hk.owns
 refine ⟨⟨by simpa using setCell_at (i:=1) (u:=.slice (some ⟨g,0,none⟩) ar.length cap) hk.blk,⟨xs.take (ar.length*14),?_,?_⟩,hk.lt,?_⟩,⟨rfl,rfl,rfl,?_,fun k hk1 h1 h2=>?_,.inl rfl⟩⟩
 ·refine ownsRow_setCell_below ?_ (by show wb<B;exact hk.lt) _
  obtain ⟨h1,h2⟩:=ho
  rw [List.length_append] at h1 h2
  simp only [List.length_singleton] at h1 h2
  refine ⟨by simp;omega,.inr ?_⟩
  rcases h2 with ⟨h,_⟩ | ⟨g',cap',cur,hv,h3,h4,h5,h6,h7,h8⟩
  ·cases h
  ·cases hv
   refine ⟨g,cap,cur,rfl,h3,h4,by omega,h6,h7,?_⟩
   rw [← h8,List.take_take]
   congr 1
   omega
 ·have hcut:∀ (ar:List (Int × Int)) (xs:List Value),ArCells (ar++[p]) xs→ArCells ar (xs.take (ar.length*14)):=by
   intro ar
   induction ar with
   | nil=>intro xs _;simp [ArCells]
   | cons q r ih =>
    intro xs h
    obtain ⟨x,ys,h1,rfl,h2⟩:=h
    refine ⟨x,ys.take (r.length*14),h1,?_,ih ys h2⟩
    rw [List.length_cons,Nat.succ_mul,Nat.add_comm,List.take_append]
    simp [List.take_of_length_le]
  exact hcut ar xs hac
 ·rw [hs];exact hk.le
 ·rw [hs];exact Nat.le_refl _
 ·exact Below.heap_setCell _ _ _ _ (by simpa using h1)
def chk2 (b l:List St) (ar:List (Int × Int)) (i:Int):Int × Int:=if (St.chkAll b ar i).1≠0 then St.chkAll b ar i else St.chkAll l ar (St.chkAll b ar i).2
theorem inner_looks (w0:World) (N:Nat) (hL:ListOk w0 N) (W:World) (wb B g p1 p2 p3 p4 cap:Nat) (i:Int) (v yv lv:Value) (b l:List St) (ar:List (Int × Int)) (hbk:St.bulkAll b+St.bulkAll l≤N) (hwb:w0.heap.size≤wb) (hB0:Below w0.heap.size w0 W)
  (hy:St.Sl w0 b yv) (hl:St.Sl w0 l lv) (hwk:Wk W wb B i v ar) (hi1 : -1≤i) (hi2:i+(St.bulkAll b+St.bulkAll l:Nat)≤2097152) (har:ar.length+(St.bulkAll b+St.bulkAll l)≤2097152)
  (g0:W.cell? ⟨g,0,none⟩=some (.func (.func 119) #[] #[.pointer (some ⟨p1,0,none⟩),.pointer (some ⟨p2,0,none⟩)])) (g1:W.cell? ⟨g,1,none⟩=some (.func (.func 119) #[] #[.pointer (some ⟨p3,0,none⟩),.pointer (some ⟨p4,0,none⟩)]))
  (c1:W.cell? ⟨p1,0,none⟩=some yv) (c2:W.cell? ⟨p2,0,none⟩=some (.pointer (some ⟨wb,0,none⟩))) (c3:W.cell? ⟨p3,0,none⟩=some lv) (c4:W.cell? ⟨p4,0,none⟩=some (.pointer (some ⟨wb,0,none⟩)))
  (n0:∀ q,q=g∨q=p1∨q=p2∨q=p3∨q=p4→q≠wb∧some q≠v.ownBlock) :
  Calls Tryd.prog 136 #[.slice (some ⟨g,0,none⟩) 2 cap] W fun e w'=>e = .returned (.int .i64 (chk2 b l ar i).1)∧∃ v',Wk w' wb B (chk2 b l ar i).2 v' ar∧WR wb W w' v v':=by
 refine (first_any 2 (by omega) g cap (fun _=>119) (fun i=>if i=0 then #[.pointer (some ⟨p1,0,none⟩),.pointer (some ⟨p2,0,none⟩)] else #[.pointer (some ⟨p3,0,none⟩),.pointer (some ⟨p4,0,none⟩)])
  (fun j w=>∃ v1 i1,Wk w wb B i1 v1 ar∧WR wb W w v v1∧(j=0→i1=i)∧(j=1→St.chkAll b ar i=(0,i1))∧(j=2→chk2 b l ar i=(0,i1)))
  (fun c w=>∃ v1,c=(chk2 b l ar i).1∧Wk w wb B (chk2 b l ar i).2 v1 ar∧WR wb W w v v1) ?_ ?_ ?_ W ⟨v,i,hwk,WR.refl _ _ _,fun _=>rfl,by omega,by omega⟩).mono ?_
 ·rintro j hj w ⟨v1,i1,hk,hr,-⟩
  have hn:=n0 g (.inl rfl)
  match j,hj with
  | 0,_=>exact hr.cell hn.1 hn.2 g0
  | 1,_=>exact hr.cell hn.1 hn.2 g1
 ·rintro j hj w ⟨v1,i1,hk,hr,h0,h1,h2⟩
  match j,hj with
  | 0,_ =>
   have e:=h0 rfl
   subst e
   have a1:=n0 p1 (by simp)
   have a2:=n0 p2 (by simp)
   refine (hL b w wb B p1 p2 i1 v1 yv ar (by omega) hwb (hr.low hwk hwb hB0) hy hk hi1 (by omega) (by omega) (hr.cell a1.1 a1.2 c1) (hr.cell a2.1 a2.2 c2) a2.1 (hr.off (World.block_lt_of_cell? _ _ c2) a2.2)).mono ?_
   rintro e w' ⟨rfl,v2,hk2,hr2⟩
   refine ⟨_,rfl,?_⟩
   by_cases hz:(St.chkAll b ar i1).1=0
   ·exact .inl ⟨hz,v2,_,hk2,hr.trans hr2,by omega,fun _=>Prod.ext hz rfl,by omega⟩
   ·have e:chk2 b l ar i1=St.chkAll b ar i1:=by unfold chk2;rw [if_pos hz]
    exact .inr ⟨hz,v2,by rw [e],by rw [e];exact hk2,hr.trans hr2⟩
  | 1,_ =>
   have e:=h1 rfl
   have a1:=n0 p3 (by simp)
   have a2:=n0 p4 (by simp)
   have e2:chk2 b l ar i=St.chkAll l ar i1:=by unfold chk2;rw [e];simp
   have hat:=St.chkAll_at b ar i (by rw [e])
   rw [e] at hat
   simp only at hat
   have hcl:=St.countAll_le b
   refine (hL l w wb B p3 p4 i1 v1 lv ar (by omega) hwb (hr.low hwk hwb hB0) hl hk (by omega) (by omega) (by omega) (hr.cell a1.1 a1.2 c3) (hr.cell a2.1 a2.2 c4) a2.1 (hr.off (World.block_lt_of_cell? _ _ c4) a2.2)).mono ?_
   rintro e w' ⟨rfl,v2,hk2,hr2⟩
   refine ⟨_,rfl,?_⟩
   rw [e2]
   by_cases hz:(St.chkAll l ar i1).1=0
   ·exact .inl ⟨hz,v2,_,hk2,hr.trans hr2,by omega,by omega,fun _=>Prod.ext hz rfl⟩
   ·exact .inr ⟨hz,v2,rfl,hk2,hr.trans hr2⟩
 ·intro j hj cp w
  exact ent22 cp w
 ·rintro e w' ⟨c,rfl,h⟩
  rcases h with ⟨rfl,v1,i1,hk,hr,-,-,h2⟩ | ⟨_,v1,rfl,hk,hr⟩
  ·have e:=h2 rfl
   exact ⟨ret_int (by rw [e]),v1,by rw [e];exact hk,hr⟩
  ·exact ⟨rfl,v1,hk,hr⟩
end Go.Proofs.YtnkgbkkakokciacDoor.B
namespace Go.Proofs.YtnkgbkkakokciacDoor.B
open Go.ChangeShapes Go.WideShapes Go.ChangeAt Go.RowKit
theorem step_append_mine {P:Program} {ops:Array Oper} {o:Oper} {a:Act} {w:World} {K:Act→World→Prop} {Q:Exit→Act→World→Prop} {E:Prop}
  (hg:o.guard=none) (s x:Operand) (t:TypeId) (hop:o.op=Op.call { callee:=Callee.builtin Builtin.append,args:=#[s,x],argTypes:=#[t,t] })
  (base:Nat) (e:TypeId) (i:TypeInfo) (z:Value) (size bytes:Nat) (h1:P.underlying t=some (.slice e)) (h2:P.info? e=some i) (h3:i.zero=some z) (h4:i.size=size) (h5:i.bytes=bytes) (h6:z.cells.size=size) (h7:0<size)
  (v:Value) (n:Nat) (xs:List Value) (hs:a.eval s=v) (hown:w.ownsRow base e size v n xs)
  (ad:Addr) (m c:Nat) (news:List Value) (hx:a.eval x = .slice (some ad) m c) (hn:news.length=m*size) (hc:∀ j u,news[j]?=some u→w.cell? (ad.add j)=some u) (h1c:∀ u ∈ news,u.oneCell'=true)
  (b1:n+m≤maxLen) (b2:(n+m)*bytes≤140737488355328) (hbase:base≤w.heap.size)
  (hK:∀ v' w',w'.ownsRow base e size v' (n+m) (xs++news)→w.grownBy w' v.ownBlock→(v'.ownBlock=v.ownBlock∨∀ k,v'.ownBlock=some k→w.heap.size≤k)→K (a.put o.dst v') w') :
  if Region.wanted o (yielded ops a.tmps)=true then Oper.wp P o a w K Q else E:=by
 have hw:Region.wanted o (yielded ops a.tmps)=true:=by simp [Region.wanted,hg]
 rw [if_pos hw]
 obtain ⟨v',w',hrun,r1,r2,_,r4⟩:=run_append_own_at (P:=P) w base t o.type e i z size bytes h1 h2 h3 h4 h5 h6 h7 v n xs hown ad m c news hn hc h1c b1 b2 hbase
 unfold Oper.wp
 simp [execOp,hop,resolve,invoke,builtin,hs,hx,hrun,Result.andThen]
 refine hK v' w' r1 r2 ?_
 rcases r4 with r | r
 ·exact .inl r
 ·right;intro k hk;rw [r] at hk;cases hk;exact Nat.le_refl _
theorem owns_some {w:World} {base n:Nat} {v:Value} {xs:List Value} (h:w.ownsRow base 123 14 v (n+1) xs):∃ g cap,v = .slice (some ⟨g,0,none⟩) (n+1) cap∧base≤g∧(∀ j,w.frozen? ⟨g,j,none⟩=false)∧g<w.heap.size:=by
 rcases h.2 with ⟨_,h⟩ | ⟨g,cap,cur,rfl,hb,hh,_⟩
 ·omega
 ·exact ⟨g,cap,rfl,hb,fun j=>h.frozenAt j,(Array.getElem?_eq_some_iff.1 hh).1⟩
theorem grown_copy {w w':World} {o:Obj} {r:Option Nat} {g:Nat} {x0 x1 x2 x3 x4 x5 x6 x7 x8 x9 x10 x11 x12 x13:Value} (h:copyIs w g x0 x1 x2 x3 x4 x5 x6 x7 x8 x9 x10 x11 x12 x13) (hg:(w.alloc o).grownBy w' r) (hr:some g≠r):copyIs w' g x0 x1 x2 x3 x4 x5 x6 x7 x8 x9 x10 x11 x12 x13:=by
 have hl:=h.lt
 exact (hg.block g (by simp;omega) hr).trans ((Below.heap_alloc _ _ _ hl).trans h)
theorem grown_wb {w w':World} {o:Obj} {wb B:Nat} {i:Int} {v:Value} {ar:List (Int × Int)} (hk:Wk w wb B i v ar) (hg:(w.alloc o).grownBy w' v.ownBlock):wb<w'.heap.size∧(∀ j,w'.frozen? ⟨wb,j,none⟩=false)∧w'.cell? ⟨wb,1,none⟩=some v:=by
 have hl:wb<w.heap.size:=(Array.getElem?_eq_some_iff.1 hk.blk).1
 have hb:w'.heap[wb]?=some (.cells #[.int .i64 i,v] 159 (0,0)):=(hg.block wb (by simp;omega) hk.free).trans ((Below.heap_alloc _ _ _ hl).trans hk.blk)
 refine ⟨(Array.getElem?_eq_some_iff.1 hb).1,fun j=>?_,?_⟩
 ·unfold World.frozen?;rw [hb];simp
 ·unfold World.cell?;rw [hb];rfl
theorem owns_tail {w:World} {base g cap n:Nat} {ys:List Value} {z0 z1 z2 z3 z4 z5 z6 z7 z8 z9 z10 z11 z12 z13:Value} (h:w.ownsRow base 123 14 (.slice (some ⟨g,0,none⟩) (n+1) cap) (n+1) (ys++[z0,z1,z2,z3,z4,z5,z6,z7,z8,z9,z10,z11,z12,z13])) (hl:ys.length=n*14) :
  w.cell? ⟨g,n*14,none⟩=some z0∧w.cell? ⟨g,n*14+1,none⟩=some z1∧w.cell? ⟨g,n*14+2,none⟩=some z2∧w.cell? ⟨g,n*14+3,none⟩=some z3∧w.cell? ⟨g,n*14+4,none⟩=some z4∧w.cell? ⟨g,n*14+5,none⟩=some z5∧w.cell? ⟨g,n*14+6,none⟩=some z6∧w.cell? ⟨g,n*14+7,none⟩=some z7∧w.cell? ⟨g,n*14+8,none⟩=some z8∧w.cell? ⟨g,n*14+9,none⟩=some z9∧w.cell? ⟨g,n*14+10,none⟩=some z10∧w.cell? ⟨g,n*14+11,none⟩=some z11∧w.cell? ⟨g,n*14+12,none⟩=some z12∧w.cell? ⟨g,n*14+13,none⟩=some z13:=by
 obtain ⟨g',cap',hv,-,hc⟩:=getCell h (by omega)
 cases hv
 have k:∀ j u,[z0,z1,z2,z3,z4,z5,z6,z7,z8,z9,z10,z11,z12,z13][j]?=some u→w.cell? ⟨g,n*14+j,none⟩=some u:=by
  intro j u hj
  have:=hc (n*14+j) u (by rw [List.getElem?_append_right (by omega),hl,Nat.add_sub_cancel_left];exact hj)
  rwa [Nat.zero_add] at this
 exact ⟨k 0 _ rfl,k 1 _ rfl,k 2 _ rfl,k 3 _ rfl,k 4 _ rfl,k 5 _ rfl,k 6 _ rfl,k 7 _ rfl,k 8 _ rfl,k 9 _ rfl,k 10 _ rfl,k 11 _ rfl,k 12 _ rfl,k 13 _ rfl⟩
theorem ArCells.last {p:Int × Int}:∀ (ar:List (Int × Int)) {xs:List Value},ArCells (ar++[p]) xs→∃ ys,∃ x:Nat→Value,xs=ys++[x 0,x 1,x 2,x 3,x 4,x 5,x 6,x 7,x 8,x 9,x 10,x 11,x 12,x 13]∧ArCells ar ys
 | [],xs,h=>by
  obtain ⟨x,ys,_,rfl,h2⟩:=h
  unfold ArCells at h2
  subst h2
  exact ⟨[],x,by simp,rfl⟩
 | q::r,xs,h=>by
  obtain ⟨x,ys,h1,rfl,h2⟩:=h
  obtain ⟨zs,x',rfl,h3⟩:=ArCells.last r h2
  exact ⟨_,x',by rw [List.append_assoc],x,zs,h1,rfl,h3⟩
theorem size_set (w:World) (a:Addr) (u:Value):(w.setCell a u).heap.size=w.heap.size:=by simp [World.setCell]
structure Mid (W:World) (wb B:Nat) (i:Int) (g cap n:Nat) (ys cs:List Value):Prop where
 blk:W.heap[wb]?=some (.cells #[.int .i64 i,.slice (some ⟨g,0,none⟩) (n+1) cap] 159 (0,0))
 owns:W.ownsRow B 123 14 (.slice (some ⟨g,0,none⟩) (n+1) cap) (n+1) (ys++cs)
 le:B≤W.heap.size
 ne:wb≠g
 len:ys.length=n*14
theorem Mid.set {W:World} {wb B:Nat} {i:Int} {g cap n:Nat} {ys cs:List Value} (h:Mid W wb B i g cap n ys cs) (j:Nat) (u:Value) :
  Mid (W.setCell ⟨g,n*14+j,none⟩ u) wb B i g cap n ys (cs.set j u)∧WR wb W (W.setCell ⟨g,n*14+j,none⟩ u) (.slice (some ⟨g,0,none⟩) (n+1) cap) (.slice (some ⟨g,0,none⟩) (n+1) cap):=by
 refine ⟨⟨(Below.heap_setCell _ _ _ _ (by simpa using h.ne)).trans h.blk,?_,by rw [size_set];exact h.le,h.ne,h.len⟩,⟨rfl,rfl,rfl,by rw [size_set];exact Nat.le_refl _,fun k _ _ h2=>Below.heap_setCell _ _ _ _ ?_,.inl rfl⟩⟩
 ·have:=(h.owns.stored (n*14+j) u).1
  rwa [List.set_append_right _ _ (by have:=h.len;omega),h.len,Nat.add_sub_cancel_left] at this
 ·intro e
  simp at e
  exact h2 (by rw [e];rfl)
theorem Wk.over {W:World} {wb B g cap:Nat} {i k n:Int} {p:Int × Int} {ar:List (Int × Int)} {x:Nat→Value} (hk:Wk W wb B i (.slice (some ⟨g,0,none⟩) (ar.length+1) cap) (ar++[p])) (hx:StShape x k n) :
  Wk ((((((((((((((W.setCell ⟨g,ar.length*14,none⟩ (x 0)).setCell ⟨g,ar.length*14+1,none⟩ (x 1)).setCell ⟨g,ar.length*14+2,none⟩ (x 2)).setCell ⟨g,ar.length*14+3,none⟩ (x 3)).setCell ⟨g,ar.length*14+4,none⟩ (x 4)).setCell ⟨g,ar.length*14+5,none⟩ (x 5)).setCell ⟨g,ar.length*14+6,none⟩ (x 6)).setCell ⟨g,ar.length*14+7,none⟩ (x 7)).setCell ⟨g,ar.length*14+8,none⟩ (x 8)).setCell ⟨g,ar.length*14+9,none⟩ (x 9)).setCell ⟨g,ar.length*14+10,none⟩ (x 10)).setCell ⟨g,ar.length*14+11,none⟩ (x 11)).setCell ⟨g,ar.length*14+12,none⟩ (x 12)).setCell ⟨g,ar.length*14+13,none⟩ (x 13)) wb B i (.slice (some ⟨g,0,none⟩) (ar.length+1) cap) (ar++[(k,n)]) ∧
  WR wb W ((((((((((((((W.setCell ⟨g,ar.length*14,none⟩ (x 0)).setCell ⟨g,ar.length*14+1,none⟩ (x 1)).setCell ⟨g,ar.length*14+2,none⟩ (x 2)).setCell ⟨g,ar.length*14+3,none⟩ (x 3)).setCell ⟨g,ar.length*14+4,none⟩ (x 4)).setCell ⟨g,ar.length*14+5,none⟩ (x 5)).setCell ⟨g,ar.length*14+6,none⟩ (x 6)).setCell ⟨g,ar.length*14+7,none⟩ (x 7)).setCell ⟨g,ar.length*14+8,none⟩ (x 8)).setCell ⟨g,ar.length*14+9,none⟩ (x 9)).setCell ⟨g,ar.length*14+10,none⟩ (x 10)).setCell ⟨g,ar.length*14+11,none⟩ (x 11)).setCell ⟨g,ar.length*14+12,none⟩ (x 12)).setCell ⟨g,ar.length*14+13,none⟩ (x 13)) (.slice (some ⟨g,0,none⟩) (ar.length+1) cap) (.slice (some ⟨g,0,none⟩) (ar.length+1) cap):=by
 have hgw:wb≠g:=fun e=>hk.free (by rw [e];rfl)
 obtain ⟨xs,ho,hac⟩:=hk.owns
 obtain ⟨ys,x',rfl,hac'⟩:=ArCells.last ar hac
 have hyl:=ArCells.len ar hac'
 rw [List.length_append,List.length_singleton] at ho
 have m0:Mid W wb B i g cap ar.length ys [x' 0,x' 1,x' 2,x' 3,x' 4,x' 5,x' 6,x' 7,x' 8,x' 9,x' 10,x' 11,x' 12,x' 13]:=⟨hk.blk,ho,hk.le,hgw,hyl⟩
 have hlt:=hk.lt
 clear hk ho
 have q1:=m0.set 0 (x 0)
 have m1:=q1.1
 have r1:=q1.2
 clear q1 m0
 have q2:=m1.set 1 (x 1)
 have m2:=q2.1
 have r2:=r1.trans q2.2
 clear q2 m1 r1
 have q3:=m2.set 2 (x 2)
 have m3:=q3.1
 have r3:=r2.trans q3.2
 clear q3 m2 r2
 have q4:=m3.set 3 (x 3)
 have m4:=q4.1
 have r4:=r3.trans q4.2
 clear q4 m3 r3
 have q5:=m4.set 4 (x 4)
 have m5:=q5.1
 have r5:=r4.trans q5.2
 clear q5 m4 r4
 have q6:=m5.set 5 (x 5)
 have m6:=q6.1
 have r6:=r5.trans q6.2
 clear q6 m5 r5
 have q7:=m6.set 6 (x 6)
 have m7:=q7.1
 have r7:=r6.trans q7.2
 clear q7 m6 r6
 have q8:=m7.set 7 (x 7)
 have m8:=q8.1
 have r8:=r7.trans q8.2
 clear q8 m7 r7
 have q9:=m8.set 8 (x 8)
 have m9:=q9.1
 have r9:=r8.trans q9.2
 clear q9 m8 r8
 have q10:=m9.set 9 (x 9)
 have m10:=q10.1
 have r10:=r9.trans q10.2
 clear q10 m9 r9
 have q11:=m10.set 10 (x 10)
 have m11:=q11.1
 have r11:=r10.trans q11.2
 clear q11 m10 r10
 have q12:=m11.set 11 (x 11)
 have m12:=q12.1
 have r12:=r11.trans q12.2
 clear q12 m11 r11
 have q13:=m12.set 12 (x 12)
 have m13:=q13.1
 have r13:=r12.trans q13.2
 clear q13 m12 r12
 have q14:=m13.set 13 (x 13)
 have m14:=q14.1
 have r14:=r13.trans q14.2
 clear q14 m13 r13
 simp only [List.set_cons_zero,List.set_cons_succ,Nat.add_zero] at m14 r14
 exact ⟨⟨m14.blk,⟨_,by rw [List.length_append,List.length_singleton];exact m14.owns,ArCells.snoc hx ar hac'⟩,hlt,m14.le⟩,r14⟩
end Go.Proofs.YtnkgbkkakokciacDoor.B
namespace Go.Proofs.YtnkgbkkakokciacDoor.B
theorem bulk_pos:∀ s:St,1≤s.bulk
 | .mk k n e ck ca cb b l=>by unfold St.bulk;omega
theorem list_all (w0:World) (hstep:∀ N,N≤1048576→ListOk w0 N→StmtOk w0 (N+1)):∀ N,N≤1048576→ListOk w0 N:=by
 intro N
 induction N with
 | zero =>
  intro _
  refine list_of_stmt w0 0 (by omega) ?_
  intro s w wb B i v sv ar h
  have:=bulk_pos s
  omega
 | succ N ih =>
  intro hN
  exact list_of_stmt w0 (N+1) hN (hstep N (by omega) (ih (by omega)))
end Go.Proofs.YtnkgbkkakokciacDoor.B
namespace Go.Proofs.YtnkgbkkakokciacDoor
open Go.ChangeShapes Go.WideShapes Go.ChangeAt Go.RowKit
def machVs (iv:Value) (vs ins cs:List Int) (sv pv:Value) (pc sp:Int) (ov:Value):List Value:=iv::(intVs vs++(intVs ins++(intVs cs++[sv,pv,.int .i64 pc,.int .i64 sp,ov])))
section
variable {iv:Value} {vs ins cs:List Int} {sv pv:Value} {pc sp:Int} {ov:Value}
theorem intVs_length (l:List Int):(intVs l).length=l.length:=by simp [intVs]
theorem intVs_at {l:List Int} {j:Nat} (h:j<l.length):(intVs l)[j]?=some (.int .i64 (l.getD j 0)):=by
 simp [intVs,List.getD_eq_getElem?_getD,List.getElem?_eq_getElem h]
theorem intVs_set (l:List Int) (j:Nat) (v:Int):(intVs l).set j (.int .i64 v)=intVs (l.set j v):=by simp [intVs,List.map_set]
theorem machVs_vs (hv:vs.length=8) {j:Nat} (h:j<8):(machVs iv vs ins cs sv pv pc sp ov)[j+1]?=some (.int .i64 (vs.getD j 0)):=by
 unfold machVs
 rw [List.getElem?_cons_succ,List.getElem?_append_left (by rw [intVs_length];omega),intVs_at (by omega)]
theorem machVs_in (hv:vs.length=8) (hi:ins.length=4) {j:Nat} (h:j<4):(machVs iv vs ins cs sv pv pc sp ov)[j+9]?=some (.int .i64 (ins.getD j 0)):=by
 unfold machVs
 rw [show j+9=(j+8)+1 by omega,List.getElem?_cons_succ,List.getElem?_append_right (by rw [intVs_length];omega),intVs_length,hv,Nat.add_sub_cancel,List.getElem?_append_left (by rw [intVs_length];omega),intVs_at (by omega)]
theorem machVs_cs (hv:vs.length=8) (hi:ins.length=4) (hc:cs.length=8) {j:Nat} (h:j<8):(machVs iv vs ins cs sv pv pc sp ov)[j+13]?=some (.int .i64 (cs.getD j 0)):=by
 unfold machVs
 rw [show j+13=(j+12)+1 by omega,List.getElem?_cons_succ,List.getElem?_append_right (by rw [intVs_length];omega),intVs_length,hv,show j+12 - 8=j+4 by omega,List.getElem?_append_right (by rw [intVs_length];omega),intVs_length,hi,Nat.add_sub_cancel,List.getElem?_append_left (by rw [intVs_length];omega),intVs_at (by omega)]
theorem machVs_rest (hv:vs.length=8) (hi:ins.length=4) (hc:cs.length=8) (j:Nat):(machVs iv vs ins cs sv pv pc sp ov)[j+21]?=[sv,pv,.int .i64 pc,.int .i64 sp,ov][j]?:=by
 unfold machVs
 rw [show j+21=(j+20)+1 by omega,List.getElem?_cons_succ,List.getElem?_append_right (by rw [intVs_length];omega),intVs_length,hv,show j+20 - 8=j+12 by omega,List.getElem?_append_right (by rw [intVs_length];omega),intVs_length,hi,show j+12 - 4=j+8 by omega,List.getElem?_append_right (by rw [intVs_length];omega),intVs_length,hc,Nat.add_sub_cancel]
theorem machVs_setV (hv:vs.length=8) {j:Nat} (h:j<8) (v:Int):(machVs iv vs ins cs sv pv pc sp ov).set (j+1) (.int .i64 v)=machVs iv (vs.set j v) ins cs sv pv pc sp ov:=by
 unfold machVs
 rw [List.set_cons_succ,List.set_append_left _ _ (by rw [intVs_length];omega),intVs_set]
theorem machVs_setC (hv:vs.length=8) (hi:ins.length=4) (hc:cs.length=8) {j:Nat} (h:j<8) (v:Int):(machVs iv vs ins cs sv pv pc sp ov).set (j+13) (.int .i64 v)=machVs iv vs ins (cs.set j v) sv pv pc sp ov:=by
 unfold machVs
 rw [show j+13=(j+12)+1 by omega,List.set_cons_succ,List.set_append_right _ _ (by rw [intVs_length];omega),intVs_length,hv,show j+12 - 8=j+4 by omega,List.set_append_right _ _ (by rw [intVs_length];omega),intVs_length,hi,Nat.add_sub_cancel,List.set_append_left _ _ (by rw [intVs_length];omega),intVs_set]
theorem machVs_setR (hv:vs.length=8) (hi:ins.length=4) (hc:cs.length=8) (j:Nat) (u:Value):(machVs iv vs ins cs sv pv pc sp ov).set (j+21) u=iv::(intVs vs++(intVs ins++(intVs cs++[sv,pv,.int .i64 pc,.int .i64 sp,ov].set j u))):=by
 unfold machVs
 rw [show j+21=(j+20)+1 by omega,List.set_cons_succ,List.set_append_right _ _ (by rw [intVs_length];omega),intVs_length,hv,show j+20 - 8=j+12 by omega,List.set_append_right _ _ (by rw [intVs_length];omega),intVs_length,hi,show j+12 - 4=j+8 by omega,List.set_append_right _ _ (by rw [intVs_length];omega),intVs_length,hc,Nat.add_sub_cancel]
theorem machVs_setS (hv:vs.length=8) (hi:ins.length=4) (hc:cs.length=8) (u:Value):(machVs iv vs ins cs sv pv pc sp ov).set 21 u=machVs iv vs ins cs u pv pc sp ov:=machVs_setR hv hi hc 0 u
theorem machVs_setP (hv:vs.length=8) (hi:ins.length=4) (hc:cs.length=8) (u:Value):(machVs iv vs ins cs sv pv pc sp ov).set 22 u=machVs iv vs ins cs sv u pc sp ov:=machVs_setR hv hi hc 1 u
theorem machVs_setA (hv:vs.length=8) (hi:ins.length=4) (hc:cs.length=8) (z:Int):(machVs iv vs ins cs sv pv pc sp ov).set 23 (.int .i64 z)=machVs iv vs ins cs sv pv z sp ov:=machVs_setR hv hi hc 2 _
end
def putVs (l:List (Int × Int)):List Value:=l.flatMap fun p=>[.int .i64 p.1,.int .i64 p.2]
theorem putVs_snoc (l:List (Int × Int)) (p:Int × Int):putVs (l++[p])=putVs l++[.int .i64 p.1,.int .i64 p.2]:=by
 simp [putVs]
theorem cell_same {w w':World} {b o:Nat} (h:w'.heap[b]?=w.heap[b]?):w'.cell? ⟨b,o,none⟩=w.cell? ⟨b,o,none⟩:=by
 unfold World.cell?
 simp only [h]
def opsEs (g:Nat):Array MapEntry:=#[⟨.int .i64 4,.func (Fn.func 88) #[] #[],0⟩,⟨.int .i64 5,.func (Fn.func 89) #[] #[],1⟩,⟨.int .i64 6,.func (Fn.func 90) #[] #[],2⟩,⟨.int .i64 7,.func (Fn.func 91) #[] #[.pointer (some ⟨g,0,none⟩)],3⟩,⟨.int .i64 8,.func (Fn.func 92) #[] #[.pointer (some ⟨g,0,none⟩)],4⟩]
def OpsAt (w:World) (mb:Nat) (ov:Value):Prop:=∃ q g,ov = .map (some q)∧q<mb∧g<mb∧w.heap[q]?=some (.map (opsEs g) 5)∧w.heap[g]?=some (.cells #[.func (Fn.func 87) #[] #[]] 151 (0,0))
theorem OpsAt.keep {w w':World} {mb:Nat} {ov:Value} (h:OpsAt w mb ov) (hb:∀ k,k<mb→w'.heap[k]?=w.heap[k]?):OpsAt w' mb ov:=by
 obtain ⟨q,g,h1,h2,h3,h4,h5⟩:=h
 exact ⟨q,g,h1,h2,h3,(hb q h2).trans h4,(hb g h3).trans h5⟩
def ImgAt (w:World) (mb:Nat) (l:List In) (iv:Value):Prop:=InSl w l iv∧∀ ad n c,iv = .slice (some ad) n c→ad.block<mb
theorem ImgAt.keep {w w':World} {mb:Nat} {l:List In} {iv:Value} (h:ImgAt w mb l iv) (hb:∀ k,k<mb→w'.heap[k]?=w.heap[k]?):ImgAt w' mb l iv:=by
 obtain ⟨⟨ad,c,rfl,h2⟩,h3⟩:=h
 refine ⟨⟨ad,c,rfl,?_⟩,h3⟩
 rcases h2 with h2 | ⟨b,o,rfl,h4⟩
 ·exact .inl h2
 ·have hlt:b<mb:=h3 _ _ _ rfl
  refine .inr ⟨b,o,rfl,fun j hj=>?_⟩
  obtain ⟨c0,c1,c2⟩:=h4 j hj
  exact ⟨(cell_same (hb b hlt)).trans c0,(cell_same (hb b hlt)).trans c1,(cell_same (hb b hlt)).trans c2⟩
structure MM (w:World) (mb B:Nat) (l:List In) (iv ov:Value) (ins:List Int) (sp:Int) (s:MS) (sv pv:Value):Prop where
 blk:w.heap[mb]?=some (.cells (machVs iv s.vs ins s.cs sv pv (s.pc:Int) sp ov).toArray 92 (0,0))
 stk:w.ownsRow B 3 1 sv s.st.length (intVs s.st)
 pts:w.ownsRow B 43 2 pv s.ps.length (putVs s.ps)
 apt:∀ k,sv.ownBlock=some k→pv.ownBlock≠some k
 lv:s.vs.length=8
 li:ins.length=4
 lc:s.cs.length=8
 nmb:mb<B
 bas:B≤w.heap.size
 img:ImgAt w mb l iv
 ops:OpsAt w mb ov
structure MR (mb:Nat) (w w':World) (sv pv sv' pv':Value):Prop where
 os:w'.os=w.os
 tape:w'.tape=w.tape
 output:w'.output=w.output
 size:w.heap.size≤w'.heap.size
 block:∀ k,k<w.heap.size→k≠mb→some k≠sv.ownBlock→some k≠pv.ownBlock→w'.heap[k]?=w.heap[k]?
 ownS:sv'.ownBlock=sv.ownBlock∨∀ k,sv'.ownBlock=some k→w.heap.size≤k
 ownP:pv'.ownBlock=pv.ownBlock∨∀ k,pv'.ownBlock=some k→w.heap.size≤k
theorem MR.refl (mb:Nat) (w:World) (sv pv:Value):MR mb w w sv pv sv pv:=⟨rfl,rfl,rfl,Nat.le_refl _,fun _ _ _ _ _=>rfl,.inl rfl,.inl rfl⟩
theorem MR.trans {mb:Nat} {a b c:World} {sv pv sv' pv' sv'' pv'':Value} (h:MR mb a b sv pv sv' pv') (h':MR mb b c sv' pv' sv'' pv''):MR mb a c sv pv sv'' pv'':=by
 refine ⟨h'.os.trans h.os,h'.tape.trans h.tape,h'.output.trans h.output,Nat.le_trans h.size h'.size,fun k hk h1 h2 h3=>?_,?_,?_⟩
 ·refine (h'.block k (by have:=h.size;omega) h1 (fun e=>?_) (fun e=>?_)).trans (h.block k hk h1 h2 h3)
  ·rcases h.ownS with ho | ho
   ·exact h2 (e.trans ho)
   ·have:=ho k e.symm;omega
  ·rcases h.ownP with ho | ho
   ·exact h3 (e.trans ho)
   ·have:=ho k e.symm;omega
 ·rcases h'.ownS with ho' | ho'
  ·rw [ho'];exact h.ownS
  ·right;intro k hk;have:=ho' k hk;have:=h.size;omega
 ·rcases h'.ownP with ho' | ho'
  ·rw [ho'];exact h.ownP
  ·right;intro k hk;have:=ho' k hk;have:=h.size;omega
theorem MR.of_below {mb:Nat} {a b:World} {sv pv:Value} (h:Below a.heap.size a b):MR mb a b sv pv sv pv:=⟨h.os,h.tape,h.output,h.size,fun k hk _ _ _=>h.block k hk,.inl rfl,.inl rfl⟩
theorem MR.grown {mb:Nat} {a b:World} {sv pv:Value} {row:Option Nat} (h:a.grownBy b row) (hr:row=sv.ownBlock∨row=pv.ownBlock) {sv' pv':Value} (h1:sv'.ownBlock=sv.ownBlock∨∀ k,sv'.ownBlock=some k→a.heap.size≤k) (h2:pv'.ownBlock=pv.ownBlock∨∀ k,pv'.ownBlock=some k→a.heap.size≤k):MR mb a b sv pv sv' pv' :=
 ⟨h.os,h.tape,h.output,h.size,fun k hk _ g1 g2=>h.block k hk (by rcases hr with hr | hr <;> rw [hr] <;> assumption),h1,h2⟩
theorem MR.set {mb:Nat} {a b:World} {sv pv sv' pv':Value} (h:MR mb a b sv pv sv' pv') (i:Nat) (u:Value):MR mb a (b.setCell ⟨mb,i,none⟩ u) sv pv sv' pv' :=
 ⟨h.os,h.tape,h.output,by rw [show (b.setCell ⟨mb,i,none⟩ u).heap.size=b.heap.size by simp];exact h.size,fun k hk h1 h2 h3=>(Below.heap_setCell _ _ _ _ (by show k≠mb;exact h1)).trans (h.block k hk h1 h2 h3),h.ownS,h.ownP⟩
section
variable {w w':World} {mb B:Nat} {l:List In} {iv ov:Value} {ins:List Int} {sp:Int} {s:MS} {sv pv:Value}
theorem MM.lt (h:MM w mb B l iv ov ins sp s sv pv):mb<w.heap.size:=(Array.getElem?_eq_some_iff.1 h.blk).1
theorem MM.grow (h:MM w mb B l iv ov ins sp s sv pv) (hb:Below w.heap.size w w'):MM w' mb B l iv ov ins sp s sv pv:=by
 have hm:=h.lt
 exact ⟨(hb.block mb hm).trans h.blk,ownsRow_same h.stk (fun k _ hk=>hb.block k hk),ownsRow_same h.pts (fun k _ hk=>hb.block k hk),h.apt,h.lv,h.li,h.lc,h.nmb,Nat.le_trans h.bas hb.size,h.img.keep (fun k hk=>hb.block k (by omega)),h.ops.keep (fun k hk=>hb.block k (by omega))⟩
theorem MM.change (h:MM w mb B l iv ov ins sp s sv pv) {i:Nat} {u:Value} {sp':Int} {s':MS} {sv' pv':Value} (hr:MR mb w w' sv pv sv' pv') (hm:w'.heap[mb]?=w.heap[mb]?)
  (hset:(machVs iv s.vs ins s.cs sv pv (s.pc:Int) sp ov).set i u=machVs iv s'.vs ins s'.cs sv' pv' (s'.pc:Int) sp' ov)
  (hs:w'.ownsRow B 3 1 sv' s'.st.length (intVs s'.st)) (hp:w'.ownsRow B 43 2 pv' s'.ps.length (putVs s'.ps)) (ha:∀ k,sv'.ownBlock=some k→pv'.ownBlock≠some k) (lv:s'.vs.length=8) (lc:s'.cs.length=8) :
  MM (w'.setCell ⟨mb,i,none⟩ u) mb B l iv ov ins sp' s' sv' pv':=by
 have hn:=h.nmb
 have hlt:=h.lt
 have nb:∀ k,k<mb→(w'.setCell ⟨mb,i,none⟩ u).heap[k]?=w.heap[k]?:=fun k hk =>
  (Below.heap_setCell _ _ _ _ (by show k≠mb;omega)).trans (hr.block k (by omega) (by omega) (fun e=>by have:=(h.stk.lt k e.symm).1;omega) (fun e=>by have:=(h.pts.lt k e.symm).1;omega))
 refine ⟨?_,ownsRow_same hs (fun k hk _=>Below.heap_setCell _ _ _ _ (by show k≠mb;omega)),ownsRow_same hp (fun k hk _=>Below.heap_setCell _ _ _ _ (by show k≠mb;omega)),ha,lv,h.li,lc,h.nmb,by have:=h.bas;have:=hr.size;simp;omega,h.img.keep nb,h.ops.keep nb⟩
 rw [setCell_at (hm.trans h.blk),List.setIfInBounds_toArray,hset]
theorem MM.cells (h:MM w mb B l iv ov ins sp s sv pv):(∀ j u,(machVs iv s.vs ins s.cs sv pv (s.pc:Int) sp ov)[j]?=some u→w.cell? ⟨mb,j,none⟩=some u)∧(∀ j,w.frozen? ⟨mb,j,none⟩=false)∧mb<w.heap.size:=cells_of h.blk
theorem MM.c_iv (h:MM w mb B l iv ov ins sp s sv pv):w.cell? ⟨mb,0,none⟩=some iv:=h.cells.1 0 _ rfl
theorem MM.c_vs (h:MM w mb B l iv ov ins sp s sv pv) {j:Nat} (hj:j<8):w.cell? ⟨mb,j+1,none⟩=some (.int .i64 (s.vs.getD j 0)):=h.cells.1 _ _ (machVs_vs h.lv hj)
theorem MM.c_in (h:MM w mb B l iv ov ins sp s sv pv) {j:Nat} (hj:j<4):w.cell? ⟨mb,j+9,none⟩=some (.int .i64 (ins.getD j 0)):=h.cells.1 _ _ (machVs_in h.lv h.li hj)
theorem MM.c_cs (h:MM w mb B l iv ov ins sp s sv pv) {j:Nat} (hj:j<8):w.cell? ⟨mb,j+13,none⟩=some (.int .i64 (s.cs.getD j 0)):=h.cells.1 _ _ (machVs_cs h.lv h.li h.lc hj)
theorem MM.c_sv (h:MM w mb B l iv ov ins sp s sv pv):w.cell? ⟨mb,21,none⟩=some sv:=h.cells.1 _ _ (machVs_rest h.lv h.li h.lc 0)
theorem MM.c_pv (h:MM w mb B l iv ov ins sp s sv pv):w.cell? ⟨mb,22,none⟩=some pv:=h.cells.1 _ _ (machVs_rest h.lv h.li h.lc 1)
theorem MM.c_pc (h:MM w mb B l iv ov ins sp s sv pv):w.cell? ⟨mb,23,none⟩=some (.int .i64 s.pc):=h.cells.1 _ _ (machVs_rest h.lv h.li h.lc 2)
theorem MM.c_ov (h:MM w mb B l iv ov ins sp s sv pv):w.cell? ⟨mb,25,none⟩=some ov:=h.cells.1 _ _ (machVs_rest h.lv h.li h.lc 4)
theorem MM.setV (h:MM w mb B l iv ov ins sp s sv pv) {j:Nat} (hj:j<8) (v:Int):MM (w.setCell ⟨mb,j+1,none⟩ (.int .i64 v)) mb B l iv ov ins sp { s with vs:=s.vs.set j v } sv pv :=
 h.change (s':={ s with vs:=s.vs.set j v }) (MR.refl _ _ _ _) rfl (machVs_setV h.lv hj v) h.stk h.pts h.apt (by simp [h.lv]) h.lc
theorem MM.setC (h:MM w mb B l iv ov ins sp s sv pv) {j:Nat} (hj:j<8) (v:Int):MM (w.setCell ⟨mb,j+13,none⟩ (.int .i64 v)) mb B l iv ov ins sp { s with cs:=s.cs.set j v } sv pv :=
 h.change (s':={ s with cs:=s.cs.set j v }) (MR.refl _ _ _ _) rfl (machVs_setC h.lv h.li h.lc hj v) h.stk h.pts h.apt h.lv (by simp [h.lc])
theorem MM.setA (h:MM w mb B l iv ov ins sp s sv pv) (z:Nat):MM (w.setCell ⟨mb,23,none⟩ (.int .i64 (z:Int))) mb B l iv ov ins sp { s with pc:=z } sv pv :=
 h.change (s':={ s with pc:=z }) (MR.refl _ _ _ _) rfl (machVs_setA h.lv h.li h.lc z) h.stk h.pts h.apt h.lv h.lc
theorem MM.pushS (h:MM w mb B l iv ov ins sp s sv pv) {st':List Int} {sv':Value} (hg:w.grownBy w' sv.ownBlock) (ho:w'.ownsRow B 3 1 sv' st'.length (intVs st')) (hv:sv'.ownBlock=sv.ownBlock∨∀ k,sv'.ownBlock=some k→w.heap.size≤k) :
  MM (w'.setCell ⟨mb,21,none⟩ sv') mb B l iv ov ins sp { s with st:=st' } sv' pv∧MR mb w (w'.setCell ⟨mb,21,none⟩ sv') sv pv sv' pv:=by
 have hn:=h.nmb
 have hr:MR mb w w' sv pv sv' pv:=MR.grown hg (.inl rfl) hv (.inl rfl)
 refine ⟨h.change (s':={ s with st:=st' }) hr (hg.block mb h.lt (fun e=>by have:=(h.stk.lt mb e.symm).1;omega)) (machVs_setS h.lv h.li h.lc sv') ho ?_ ?_ h.lv h.lc,hr.set _ _⟩
 ·obtain ⟨hl,h1 | ⟨g,cap,cur,he,hb,hgg,hr'⟩⟩:=h.pts
  ·exact ⟨hl,.inl h1⟩
  ·exact ⟨hl,.inr ⟨g,cap,cur,he,hb,(hg.block g (Array.getElem?_eq_some_iff.1 hgg).1 (fun e=>h.apt g e.symm (by rw [he];rfl))).trans hgg,hr'⟩⟩
 ·intro k hk hk'
  rcases hv with hv | hv
  ·rw [hv] at hk;exact h.apt k hk hk'
  ·have h1:=hv k hk;have h2:=(h.pts.lt k hk').2;omega
theorem MM.pushP (h:MM w mb B l iv ov ins sp s sv pv) {ps':List (Int × Int)} {pv':Value} (hg:w.grownBy w' pv.ownBlock) (ho:w'.ownsRow B 43 2 pv' ps'.length (putVs ps')) (hv:pv'.ownBlock=pv.ownBlock∨∀ k,pv'.ownBlock=some k→w.heap.size≤k) :
  MM (w'.setCell ⟨mb,22,none⟩ pv') mb B l iv ov ins sp { s with ps:=ps' } sv pv'∧MR mb w (w'.setCell ⟨mb,22,none⟩ pv') sv pv sv pv':=by
 have hn:=h.nmb
 have hr:MR mb w w' sv pv sv pv':=MR.grown hg (.inr rfl) (.inl rfl) hv
 refine ⟨h.change (s':={ s with ps:=ps' }) hr (hg.block mb h.lt (fun e=>by have:=(h.pts.lt mb e.symm).1;omega)) (machVs_setP h.lv h.li h.lc pv') ?_ ho ?_ h.lv h.lc,hr.set _ _⟩
 ·obtain ⟨hl,h1 | ⟨g,cap,cur,he,hb,hgg,hr'⟩⟩:=h.stk
  ·exact ⟨hl,.inl h1⟩
  ·exact ⟨hl,.inr ⟨g,cap,cur,he,hb,(hg.block g (Array.getElem?_eq_some_iff.1 hgg).1 (fun e=>h.apt g (by rw [he];rfl) e.symm)).trans hgg,hr'⟩⟩
 ·intro k hk hk'
  rcases hv with hv | hv
  ·rw [hv] at hk';exact h.apt k hk hk'
  ·have h1:=hv k hk';have h2:=(h.stk.lt k hk).2;omega
theorem st_shrink {ad:Option Addr} {c n:Nat} {st:List Int} (h:w.ownsRow B 3 1 (.slice ad (n+1) c) st.length (intVs st)) (hn:st.length=n+1):w.ownsRow B 3 1 (.slice ad n c) st.dropLast.length (intVs st.dropLast):=by
 have hd:st.dropLast.length=n:=by simp [hn]
 obtain ⟨hl,⟨e,he⟩ | ⟨g,cap,cur,e,hb,hg,hc,hm,hs,ht⟩⟩:=h
 ·omega
 ·simp only [Value.slice.injEq] at e
  obtain ⟨rfl,-,rfl⟩:=e
  refine ⟨by simp [intVs],.inr ⟨g,c,cur,by rw [hd],hb,hg,by omega,hm,hs,?_⟩⟩
  have e2:intVs st.dropLast=(intVs st).take (st.dropLast.length*1):=by
   rw [hd,Nat.mul_one]
   unfold intVs
   rw [← List.map_take,List.dropLast_eq_take,hn]
   rfl
  rw [e2,← ht,List.take_take]
  congr 1
  omega
theorem MM.pop {ad:Option Addr} {n c:Nat} (h:MM w mb B l iv ov ins sp s (.slice ad (n+1) c) pv) (hn:s.st.length=n+1) :
  MM (w.setCell ⟨mb,21,none⟩ (.slice ad n c)) mb B l iv ov ins sp { s with st:=s.st.dropLast } (.slice ad n c) pv∧MR mb w (w.setCell ⟨mb,21,none⟩ (.slice ad n c)) (.slice ad (n+1) c) pv (.slice ad n c) pv :=
 h.pushS ⟨rfl,rfl,rfl,Nat.le_refl _,fun _ _ _=>rfl⟩ (st_shrink h.stk hn) (.inl (by cases ad <;> rfl))
theorem MM.tops (h:MM w mb B l iv ov ins sp s sv pv) {n:Nat} (hn:s.st.length=n+1):∃ (b o c:Nat),sv = .slice (some ⟨b,o,none⟩) (n+1) c∧w.cell? ⟨b,o+n,none⟩=some (.int .i64 s.top)∧b<w.heap.size∧b≠mb∧n+1≤c:=by
 have hm:=h.nmb
 have hb:=h.stk
 rw [hn] at hb
 have hb':=hb
 obtain ⟨-,⟨e,he⟩ | ⟨g,cap,cur,e,hB,hg,hc,-,-,-⟩⟩:=hb'
 ·omega
 ·refine ⟨g,0,cap,e,?_,(Array.getElem?_eq_some_iff.1 hg).1,by omega,hc⟩
  subst e
  have h1:=hb.cellAt n (by omega)
  rw [intVs_at (by omega)] at h1
  rw [Nat.zero_add]
  have ht:s.top=s.st.getD n 0:=by
   unfold MS.top
   rw [List.getLast?_eq_getElem?,hn,Nat.add_sub_cancel,List.getD_eq_getElem?_getD]
  rw [ht]
  exact h1
end
def insVs:List In→List Value
 | []=>[]
 | x::t=>.int .i64 x.op :: .int .i64 x.a :: .int .i64 x.b::insVs t
theorem insVs_length (l:List In):(insVs l).length=l.length*3:=by
 induction l with
 | nil=>rfl
 | cons x t ih=>simp only [insVs,List.length_cons,ih];omega
theorem insVs_at:∀ (l:List In) (j:Nat),j<l.length→(insVs l)[j*3]?=some (.int .i64 (l.getD j in0).op)∧(insVs l)[j*3+1]?=some (.int .i64 (l.getD j in0).a)∧(insVs l)[j*3+2]?=some (.int .i64 (l.getD j in0).b)
 | [],j,h=>by simp at h
 | x::t,0,_=>⟨rfl,rfl,rfl⟩
 | x::t,j+1,h=>by
  have:=insVs_at t j (by simpa using h)
  rw [insVs,show (j+1)*3=j*3+1+1+1 by omega,show j*3+1+1+1+1=(j*3+1)+1+1+1 by omega,show j*3+1+1+1+2=(j*3+2)+1+1+1 by omega]
  simpa using this
theorem insVs_one {l:List In} {u:Value} (h:u ∈ insVs l):u.oneCell'=true:=by
 induction l with
 | nil=>simp [insVs] at h
 | cons x t ih =>
  simp only [insVs,List.mem_cons] at h
  rcases h with rfl | rfl | rfl | h
  ·rfl
  ·rfl
  ·rfl
  ·exact ih h
theorem insVs_cell {w:World} {l:List In} {b o:Nat} (h:∀ j,j<l.length→w.cell? ⟨b,o+j*3,none⟩=some (.int .i64 (l.getD j in0).op)∧w.cell? ⟨b,o+j*3+1,none⟩=some (.int .i64 (l.getD j in0).a)∧w.cell? ⟨b,o+j*3+2,none⟩=some (.int .i64 (l.getD j in0).b)) (q:Nat) (u:Value) (hq:(insVs l)[q]?=some u):w.cell? ⟨b,o+q,none⟩=some u:=by
 have hql:q<l.length*3:=by have:=(List.getElem?_eq_some_iff.1 hq).1;rwa [insVs_length] at this
 have hj:q / 3<l.length:=by omega
 obtain ⟨a0,a1,a2⟩:=insVs_at l (q / 3) hj
 obtain ⟨c0,c1,c2⟩:=h (q / 3) hj
 have e:q=q / 3*3∨q=q / 3*3+1∨q=q / 3*3+2:=by omega
 rcases e with e | e | e
 ·rw [e] at hq ⊢;rw [a0] at hq;rw [← hq];exact c0
 ·rw [e] at hq ⊢;rw [a1] at hq;rw [← hq,← Nat.add_assoc];exact c1
 ·rw [e] at hq ⊢;rw [a2] at hq;rw [← hq,← Nat.add_assoc];exact c2
theorem info52:(Tryd.prog.info? 35).map (fun i=>(i.zero,i.size,i.bytes))=some (some (.agg #[.int .i64 0,.int .i64 0,.int .i64 0]),3,24):=by kernel_rfl
theorem InSl.arg {w w1:World} {l:List In} {ad:Option Addr} {c:Nat} (h:InSl w l (.slice ad l.length c)) (hb:Below w.heap.size w w1):∀ ad',ad=some ad'→∀ j u,(insVs l)[j]?=some u→w1.cell? (ad'.add j)=some u:=by
 intro ad' hd j u hj
 have hjl:j<l.length*3:=by have:=(List.getElem?_eq_some_iff.1 hj).1;rwa [insVs_length] at this
 obtain ⟨ad2,c2,e,h2⟩:=h
 cases e
 rcases h2 with h2 | ⟨b,o,h2,h3⟩
 ·subst h2;simp at hjl
 ·rw [hd] at h2
  cases h2
  rw [Addr.add_lit]
  exact below_cell hb (insVs_cell h3 j u hj)
theorem ready_false {md:Region.Mode} {ops:Array Oper} {l:Array Bool} {i:Nat} (h:i ∈ Region.ready md ops l):∃ hi:i<l.size,l[i]=false:=by
 unfold Region.ready at h
 rw [List.mem_filter] at h
 have h2:=h.2
 simp only [Bool.and_eq_true,Bool.not_eq_true'] at h2
 have h3:=h2.1
 unfold Array.getD at h3
 split at h3
 ·rename_i hi;exact ⟨hi,h3⟩
 ·cases h3
theorem wpAny_inv {P:Program} {md:Region.Mode} {ops:Array Oper} {Q:Exit→Act→World→Prop} (Inv:Array Bool→Act→World→Prop)
  (hd:∀ l a w,Inv l a w→Region.ready md ops l=[]→Q .normal a w)
  (hs:∀ l a w i,Inv l a w→i ∈ Region.ready md ops l→wpOp P ops Q i (Inv (l.setIfInBounds i true)) a w) :
  ∀ (fuel:Nat) (l:Array Bool) (a:Act) (w:World),Inv l a w→l.toList.count false≤fuel→wpAny P md ops Q fuel l a w
 | 0,l,a,w,h,hc=>by
  have hr:Region.ready md ops l=[]:=by
   cases hr:Region.ready md ops l with
   | nil=>rfl
   | cons i r =>
    obtain ⟨hi,he⟩:=ready_false (md:=md) (ops:=ops) (l:=l) (i:=i) (by rw [hr];simp)
    have:false ∈ l.toList:=by rw [← he];simp
    have:=List.count_pos_iff.2 this
    omega
  exact ⟨hr,hd l a w h hr⟩
 | fuel+1,l,a,w,h,hc=>by
  refine ⟨fun hr=>hd l a w h hr,fun i hi=>wpOp_mono (fun a w h'=>?_) (hs l a w i h hi)⟩
  refine wpAny_inv Inv hd hs fuel _ a w h' ?_
  obtain ⟨hl,he⟩:=ready_false hi
  have hl':i<l.toList.length:=by simpa using hl
  rw [Array.toList_setIfInBounds,List.count_set hl']
  have e1:l.toList[i]=false:=by simpa using he
  have hpos:0<l.toList.count false:=List.count_pos_iff.2 (by rw [← e1];exact List.getElem_mem _)
  rw [e1,if_pos (by decide),if_neg (by decide)]
  omega
end Go.Proofs.YtnkgbkkakokciacDoor
