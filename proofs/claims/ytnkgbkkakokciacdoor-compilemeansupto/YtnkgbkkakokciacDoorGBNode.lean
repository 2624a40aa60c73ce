import Derived.Test.YtnkgbkkakokciacDoorGBSize
import Derived.MapKept
import Derived.Deep.CutRange
namespace Go.Proofs.YtnkgbkkakokciacDoor.B
open Go.ChangeShapes Go.WideShapes Go.ChangeAt Go.RowKit
theorem next_world {W w1 w2:World} (h:Hid (Below W.heap.size W w1)) (hb:Below w1.heap.size w1 w2):Hid (Below W.heap.size W w2)∧∀ b o,b<W.heap.size→w2.cell? ⟨b,o,none⟩=W.cell? ⟨b,o,none⟩ :=
 ⟨below_seq h.out hb,fun b o h'=>(below_seq h.out hb).cell (p:=⟨b,o,none⟩) h'⟩
mutual
def Ex.InP (p:Nat→Prop) (w:World):Ex→Value→Prop
 | .mk k n a,v=>∃ ad c,v = .agg #[.int .i64 k,.int .i64 n,.slice ad a.length c]∧(a=[]∨∃ b o,ad=some ⟨b,o,none⟩∧p b∧Ex.RowP p w a b o)
def Ex.RowP (p:Nat→Prop) (w:World):List Ex→Nat→Nat→Prop
 | [],_,_=>True
 | e::r,b,o=>(∃ x0 x1 x2,w.cell? ⟨b,o,none⟩=some x0∧w.cell? ⟨b,o+1,none⟩=some x1∧w.cell? ⟨b,o+2,none⟩=some x2∧Ex.InP p w e (.agg #[x0,x1,x2]))∧Ex.RowP p w r b (o+3)
end
mutual
theorem Ex.InP.plain {p:Nat→Prop} {w:World}:∀ (e:Ex) {v:Value},e.InP p w v→e.In w v
 | .mk k n a,v,h=>by
  unfold Ex.InP at h
  unfold Ex.In
  obtain ⟨ad,c,hv,h⟩:=h
  refine ⟨ad,c,hv,?_⟩
  rcases h with h | ⟨b,o,h1,_,h2⟩
  ·exact .inl h
  ·exact .inr ⟨b,o,h1,Ex.RowP.plain a h2⟩
theorem Ex.RowP.plain {p:Nat→Prop} {w:World}:∀ (a:List Ex) {b o:Nat},Ex.RowP p w a b o→Ex.Row w a b o
 | [],_,_,_=>by unfold Ex.Row;trivial
 | e::r,b,o,h=>by
  unfold Ex.RowP at h
  unfold Ex.Row
  obtain ⟨⟨x0,x1,x2,h0,h1,h2,h3⟩,h4⟩:=h
  exact ⟨⟨x0,x1,x2,h0,h1,h2,Ex.InP.plain e h3⟩,Ex.RowP.plain r h4⟩
end
def Moves (p q:Nat→Prop) (w w':World):Prop:=∀ b,p b→b<w.heap.size→q b∧w'.heap[b]?=w.heap[b]?
theorem Moves.cell {p q:Nat→Prop} {w w':World} (h:Moves p q w w') {b o:Nat} {v:Value} (hp:p b) (hc:w.cell? ⟨b,o,none⟩=some v):w'.cell? ⟨b,o,none⟩=some v :=
 (World.cell?_of_block (h b hp (World.block_lt_of_cell? _ _ hc)).2).trans hc
mutual
theorem Ex.InP.move {p q:Nat→Prop} {w w':World} (hm:Moves p q w w'):∀ (e:Ex) {v:Value},e.InP p w v→e.InP q w' v
 | .mk k n a,v,h=>by
  unfold Ex.InP at h ⊢
  obtain ⟨ad,c,hv,h⟩:=h
  refine ⟨ad,c,hv,?_⟩
  rcases h with h | ⟨b,o,h1,hp,h2⟩
  ·exact .inl h
  ·cases a with
   | nil=>exact .inl rfl
   | cons x r =>
    have hc:b<w.heap.size:=by
     unfold Ex.RowP at h2
     obtain ⟨⟨x0,x1,x2,h0,_⟩,_⟩:=h2
     exact World.block_lt_of_cell? _ _ h0
    exact .inr ⟨b,o,h1,(hm b hp hc).1,Ex.RowP.move hm _ hp h2⟩
theorem Ex.RowP.move {p q:Nat→Prop} {w w':World} (hm:Moves p q w w'):∀ (a:List Ex) {b o:Nat},p b→Ex.RowP p w a b o→Ex.RowP q w' a b o
 | [],_,_,_,_=>by unfold Ex.RowP;trivial
 | e::r,b,o,hp,h=>by
  unfold Ex.RowP at h ⊢
  obtain ⟨⟨x0,x1,x2,h0,h1,h2,h3⟩,h4⟩:=h
  exact ⟨⟨x0,x1,x2,hm.cell hp h0,hm.cell hp h1,hm.cell hp h2,Ex.InP.move hm e h3⟩,Ex.RowP.move hm r hp h4⟩
end
def Ex.Cells (p:Nat→Prop) (w:World):List Ex→List Value→Prop
 | [],xs=>xs=[]
 | e::r,xs=>∃ x0 x1 x2 ys,xs=x0::x1::x2::ys∧e.InP p w (.agg #[x0,x1,x2])∧Ex.Cells p w r ys
theorem Ex.Cells.move {p q:Nat→Prop} {w w':World} (hm:Moves p q w w'):∀ (a:List Ex) {xs:List Value},Ex.Cells p w a xs→Ex.Cells q w' a xs
 | [],_,h=>h
 | e::r,xs,h=>by
  obtain ⟨x0,x1,x2,ys,hx,h1,h2⟩:=h
  exact ⟨x0,x1,x2,ys,hx,h1.move hm,Ex.Cells.move hm r h2⟩
theorem Ex.Cells.snoc {p:Nat→Prop} {w:World} {e:Ex} {y0 y1 y2:Value} (he:e.InP p w (.agg #[y0,y1,y2])):∀ (a:List Ex) {xs:List Value},Ex.Cells p w a xs→Ex.Cells p w (a++[e]) (xs++[y0,y1,y2])
 | [],xs,h=>by
  unfold Ex.Cells at h
  subst h
  exact ⟨y0,y1,y2,[],rfl,he,rfl⟩
 | x::r,xs,h=>by
  obtain ⟨x0,x1,x2,ys,hx,h1,h2⟩:=h
  subst hx
  exact ⟨x0,x1,x2,ys++[y0,y1,y2],rfl,h1,Ex.Cells.snoc he r h2⟩
theorem Ex.Cells.row {p:Nat→Prop} {w:World} {g:Nat}:∀ (a:List Ex) {xs:List Value} {o:Nat},Ex.Cells p w a xs→(∀ j u,xs[j]?=some u→w.cell? ⟨g,o+j,none⟩=some u)→Ex.RowP p w a g o
 | [],_,_,_,_=>by unfold Ex.RowP;trivial
 | e::r,xs,o,h,hc=>by
  obtain ⟨x0,x1,x2,ys,hx,h1,h2⟩:=h
  subst hx
  unfold Ex.RowP
  refine ⟨⟨x0,x1,x2,by simpa using hc 0 x0 rfl,hc 1 x1 rfl,hc 2 x2 rfl,h1⟩,Ex.Cells.row r h2 fun j u hj=>?_⟩
  have:=hc (j+3) u (by simpa using hj)
  rwa [show o+(j+3)=o+3+j by omega] at this
theorem Ex.InP.shape {p:Nat→Prop} {w:World} {e:Ex} {v:Value} (h:e.InP p w v):∃ k n ad m c,v = .agg #[.int .i64 k,.int .i64 n,.slice ad m c]:=by
 obtain ⟨k,n,a⟩:=e
 unfold Ex.InP at h
 obtain ⟨ad,c,hv,-⟩:=h
 exact ⟨_,_,_,_,_,hv⟩
def offOf (B:Nat) (v:Value) (b:Nat):Prop:=B≤b∧v.ownBlock≠some b
theorem append_mine {P:Program} (w:World) {ops:Array Oper} {rest:List Oper} {o:Oper} {a:Act} {Q:Exit→Act→World→Prop}
  (hg:o.guard=none) (s x:Operand) (t:TypeId) (hop:o.op=Op.call { callee:=Callee.builtin Builtin.append,args:=#[s,x],argTypes:=#[t,t] })
  (base:Nat) (e:TypeId) (i:TypeInfo) (z:Value) (size bytes:Nat) (h1:P.underlying t=some (.slice e)) (h2:P.info? e=some i) (h3:i.zero=some z) (h4:i.size=size) (h5:i.bytes=bytes) (h6:z.cells.size=size) (h7:0<size)
  (v:Value) (n:Nat) (xs:List Value) (hs:a.eval s=v) (hown:w.ownsRow base e size v n xs)
  (ad:Addr) (m c:Nat) (news:List Value) (hx:a.eval x = .slice (some ad) m c) (hn:news.length=m*size) (hc:∀ j u,news[j]?=some u→w.cell? (ad.add j)=some u) (h1c:∀ u ∈ news,u.oneCell'=true)
  (hm:0<m) (b1:n+m≤maxLen) (b2:(n+m)*bytes≤140737488355328) (hbase:base≤w.heap.size)
  (hK:∀ v' w',w'.ownsRow base e size v' (n+m) (xs++news)→w.grownBy w' v.ownBlock→(v'.ownBlock=v.ownBlock∨∀ k,v'.ownBlock=some k→w.heap.size≤k)→wpList P ops Q rest (a.put o.dst v') w') :
  wpList P ops Q (o::rest) a w:=by
 have up:∀ v' w',w'.ownsRow w.heap.size e size v' (n+m) (xs++news)→w.grownBy w' none→wpList P ops Q rest (a.put o.dst v') w':=by
  intro v' w' ho hgr
  refine hK v' w' ?_ ⟨hgr.os,hgr.tape,hgr.output,hgr.size,fun k hk _=>hgr.block k hk (by simp)⟩ (.inr fun k hk=>(ho.lt k hk).1)
  obtain ⟨q1,q2⟩:=ho
  refine ⟨q1,?_⟩
  rcases q2 with q2 | ⟨g,cap,cur,hv,hb,r⟩
  ·exact .inl q2
  ·exact .inr ⟨g,cap,cur,hv,Nat.le_trans hbase hb,r⟩
 have hown':=hown
 obtain ⟨hl,ho⟩:=hown
 rcases ho with ⟨rfl,rfl⟩ | ⟨g,cap,cur,rfl,hb,hgg,hcap,hcm,hcs,htk⟩
 ·have hxs:xs=[]:=List.eq_nil_of_length_eq_zero (by simpa using hl)
  subst hxs
  exact wpList_append_grows w hg s x t hop e i z size bytes h1 h2 h3 h4 h5 h6 h7 none 0 0 [] hs (fun _=>⟨rfl,rfl⟩) (by simp) (fun b hb=>by cases hb) ad m c news hx hn hc h1c (by omega) b1 b2 up
 ·by_cases hr:n+m≤cap
  ·exact wpList_append_fits w hg s x t hop base e i size h1 h2 h4 g n cap xs hs hown' ad m c news hx hn hc h1c hr fun w' q1 q2=>hK _ w' q1 q2 (.inl rfl)
  ·exact wpList_append_grows w hg s x t hop e i z size bytes h1 h2 h3 h4 h5 h6 h7 (some ⟨g,0,none⟩) n cap xs hs (fun h=>by cases h) hl (fun b hb'=>by cases hb';exact hown'.cells rfl) ad m c news hx hn hc h1c (by omega) b1 b2 up
theorem moves_append {B:Nat} {v v':Value} {w w':World} (hg:w.grownBy w' v.ownBlock) (hv:v'.ownBlock=v.ownBlock∨∀ k,v'.ownBlock=some k→w.heap.size≤k):Moves (offOf B v) (offOf B v') w w':=by
 intro b hp hb
 refine ⟨⟨hp.1,?_⟩,hg.block b hb (fun h=>hp.2 h.symm)⟩
 rcases hv with hv | hv
 ·rw [hv];exact hp.2
 ·intro h;have:=hv b h;omega
end Go.Proofs.YtnkgbkkakokciacDoor.B
namespace Go.Proofs.YtnkgbkkakokciacDoor.B
open Go.ChangeShapes Go.WideShapes Go.ChangeAt Go.RowKit
theorem info30:(Tryd.prog.info? 119).map (fun i=>(i.zero,i.size,i.bytes))=some (some (.agg #[.int .i64 0,.int .i64 0,.slice none 0 0]),3,40):=by kernel_rfl
theorem twinE_step {W2 wr w2 w3:World} {a:List Ex} {j:Nat} {out v' y0 y1 y2:Value} {xs:List Value} {o:Obj} (hlt:j<a.length)
  (hcs:Ex.Cells (offOf W2.heap.size out) wr (a.take j) xs) (hown:wr.ownsRow W2.heap.size 119 3 out j xs) (hB:Below W2.heap.size W2 wr) (hb':Below wr.heap.size wr w2)
  (he:(a[j]).InP (fun b=>wr.heap.size≤b) w2 (.agg #[y0,y1,y2]))
  (hg:(w2.alloc o).grownBy w3 out.ownBlock) (hv:v'.ownBlock=out.ownBlock∨∀ k,v'.ownBlock=some k→(w2.alloc o).heap.size≤k) :
  Ex.Cells (offOf W2.heap.size v') w3 (a.take (j+1)) (xs++[y0,y1,y2])∧Below W2.heap.size W2 w3:=by
 have s1:=hB.size
 have s2:=hb'.size
 have lt:∀ k,out.ownBlock=some k→W2.heap.size≤k∧k<wr.heap.size:=hown.lt
 refine ⟨?_,?_⟩
 ·rw [List.take_succ_eq_append_getElem hlt]
  refine Ex.Cells.snoc ?_ _ ?_
  ·refine Ex.InP.move ?_ _ he
   intro b hb hlt2
   have hq:offOf W2.heap.size out b:=⟨by omega,fun h=>by have:=(lt b h).2;omega⟩
   have hm:=moves_append (B:=W2.heap.size) hg hv b hq (by simp;omega)
   exact ⟨hm.1,hm.2.trans (Below.heap_alloc _ _ _ hlt2)⟩
  ·refine Ex.Cells.move ?_ _ hcs
   intro b hb hlt2
   have hm:=moves_append (B:=W2.heap.size) hg hv b hb (by simp;omega)
   exact ⟨hm.1,hm.2.trans ((Below.heap_alloc _ _ _ (by omega)).trans (hb'.block b hlt2))⟩
 ·refine (hB.trans (hb'.mono s1)).trans ?_
  refine (Below.refl _ _).alloc (by omega) o |>.grown hg (by simp;omega) fun k hk=>(lt k hk).1
theorem getCell {w:World} {v:Value} {base n:Nat} {xs:List Value} {e:TypeId} {size:Nat} (h:w.ownsRow base e size v n xs) (hn:0<n):∃ g cap,v = .slice (some ⟨g,0,none⟩) n cap∧base≤g∧∀ j u,xs[j]?=some u→w.cell? ⟨g,0+j,none⟩=some u:=by
 have h':=h
 rcases h.2 with ⟨rfl,rfl⟩ | ⟨g,cap,cur,rfl,hb,_⟩
 ·omega
 ·exact ⟨g,cap,rfl,hb,fun j u hj=>by have:=h'.cells (g:=g) rfl j u hj;rw [show (0+j)=j by omega];unfold Addr.add at this;by_cases h0:j=0 <;> simp_all⟩
theorem twinE_end {w3:World} {B:Nat} {a:List Ex} {k n:Int} {out:Value} {xs:List Value} (hcs:Ex.Cells (offOf B out) w3 a xs) (hown:w3.ownsRow B 119 3 out a.length xs) :
  ∃ ad c,out = .slice ad a.length c∧(Ex.mk k n a).InP (fun b=>B≤b) w3 (.agg #[.int .i64 k,.int .i64 n,.slice ad a.length c]):=by
 by_cases h0:a=[]
 ·subst h0
  rcases hown.2 with ⟨rfl,_⟩ | ⟨g,cap,cur,rfl,_⟩
  ·exact ⟨none,0,rfl,by unfold Ex.InP;exact ⟨_,_,rfl,.inl rfl⟩⟩
  ·exact ⟨_,_,rfl,by unfold Ex.InP;exact ⟨_,_,rfl,.inl rfl⟩⟩
 ·obtain ⟨g,cap,rfl,hb,hc⟩:=getCell hown (List.length_pos_iff.2 h0)
  refine ⟨_,_,rfl,?_⟩
  unfold Ex.InP
  refine ⟨_,_,rfl,.inr ⟨g,0,rfl,hb,?_⟩⟩
  exact Ex.Cells.row a (Ex.Cells.move (fun b hb _=>⟨hb.1,rfl⟩) _ hcs) hc
theorem ownsRow_below {w w':World} {base n size:Nat} {e:TypeId} {v:Value} {xs:List Value} (h:w.ownsRow base e size v n xs) (hb:Below w.heap.size w w'):w'.ownsRow base e size v n xs:=by
 refine h.kept (row:=none) ⟨hb.os,hb.tape,hb.output,hb.size,fun k hk _=>hb.block k hk⟩ ?_
 cases v.ownBlock <;> simp
theorem InP_weaken {w:World} {e:Ex} {v:Value} {B C:Nat} (h:e.InP (fun b=>B≤b) w v) (hC:C≤B):e.InP (fun b=>C≤b) w v :=
 Ex.InP.move (fun _ hb _=>⟨Nat.le_trans hC hb,rfl⟩) _ h
theorem fresh_cells (w:World) (l:List Value) (t:TypeId):∀ j u,l[j]?=some u→(w.alloc (.cells l.toArray t)).cell? ((⟨w.heap.size,0,none⟩:Addr).add j)=some u:=by
 intro j u hj
 have e:(⟨w.heap.size,0,none⟩:Addr).add j=⟨w.heap.size,j,none⟩:=by unfold Addr.add;by_cases h0:j=0 <;> simp [h0]
 rw [e,World.cell?_alloc_at _ _ _ _ rfl]
 simpa using hj
set_option maxHeartbeats 2000000 in
theorem twinExpr_any (N:Nat):∀ (e:Ex) (w:World) (v:Value),e.nodes<N→N≤1048577→e.In w v →
  Calls Tryd.prog 65 #[v] w fun r w'=>∃ v',r = .returned v'∧e.InP (fun b=>w.heap.size≤b) w' v'∧Below w.heap.size w w':=by
 induction N with
 | zero=>intro e w v h;omega
 | succ N ih =>
  intro e w v hN hle hin
  obtain ⟨k,n,a⟩:=e
  unfold Ex.nodes at hN
  have hlen:=length_le_nodesAll a
  unfold Ex.In at hin
  obtain ⟨ad,c,rfl,hrow⟩:=hin
  have HR:Hid (a=[]∨∃ b o,ad=some ⟨b,o,none⟩∧Ex.Row w a b o):=hrow
  clear hrow
  have IH:Hid _:=ih
  clear ih
  obtain ⟨i0,hi,hz0,hz1,hz2⟩:=info_parts info30
  go_enter Tryd.func65,Tryd.ntmps65
  go_wp2_with fail
  have hC:∃ W2,W2=(w.alloc (.cells #[.int .i64 k,.int .i64 n,.slice ad a.length c] 119)).alloc (.cells #[.int .i64 0,.int .i64 0,.slice none 0 0] 119):=⟨_,rfl⟩
  obtain ⟨W2,hW⟩:=hC
  have hsz:W2.heap.size=w.heap.size+2:=by rw [hW];simp
  have hB0:Below w.heap.size w W2:=by rw [hW];exact ((Below.refl _ _).alloc (Nat.le_refl _) _).alloc (by simp) _
  have e0:W2.cell? ⟨w.heap.size,0,none⟩=some (.int .i64 k):=by rw [hW,World.cell?_alloc_past _ _ _ (by simp),World.cell?_alloc_at _ _ _ _ rfl];rfl
  have e1:W2.cell? ⟨w.heap.size,1,none⟩=some (.int .i64 n):=by rw [hW,World.cell?_alloc_past _ _ _ (by simp),World.cell?_alloc_at _ _ _ _ rfl];rfl
  have e2:W2.cell? ⟨w.heap.size,2,none⟩=some (.slice ad a.length c):=by rw [hW,World.cell?_alloc_past _ _ _ (by simp),World.cell?_alloc_at _ _ _ _ rfl];rfl
  have r0:W2.cell? ⟨w.heap.size+1,0,none⟩=some (.int .i64 0):=by rw [hW,World.cell?_alloc_at _ _ _ _ (by simp)];rfl
  have r1:W2.cell? ⟨w.heap.size+1,1,none⟩=some (.int .i64 0):=by rw [hW,World.cell?_alloc_at _ _ _ _ (by simp)];rfl
  have r2:W2.cell? ⟨w.heap.size+1,2,none⟩=some (.slice none 0 0):=by rw [hW,World.cell?_alloc_at _ _ _ _ (by simp)];rfl
  have f0:∀ j,W2.frozen? ⟨w.heap.size,j,none⟩=false:=by intro j;rw [hW];simp [go_sem]
  have f1:∀ j,W2.frozen? ⟨w.heap.size+1,j,none⟩=false:=by intro j;rw [hW];simp [go_sem]
  rw [← hW]
  clear hW
  go_loopw [3,5,9] (fun x _ i wr=>∃ (j:Nat) (xs:List Value),j≤a.length∧i = .int .i64 j∧Ex.Cells (offOf W2.heap.size x) wr (a.take j) xs∧wr.ownsRow W2.heap.size 119 3 x j xs∧Below W2.heap.size W2 wr) (fun _ _ i _=>a.length - (intOf i).toNat)
  case atStart=>exact ⟨0,[],Nat.zero_le _,rfl,rfl,World.ownsRow_nil _ _ _ _,Below.refl _ _⟩
  case round =>
   obtain ⟨j,xs,hj,rfl,hcs,hown,hb⟩:=hrel
   by_cases hlt:j<a.length
   ·rcases HR.out with h | ⟨b,o,had,hrow⟩
    ·subst h;simp at hlt
    subst had
    have hb2:=below_seq hB0 hb
    obtain ⟨xk,xn,xad,xm,xc,c0,c1,c2,hin⟩:=(Ex.Row.below hb2 a hrow).shape hlt
    have hnd:=nodesAll_at a j a[j] (by simp [hlt])
    have HI:Hid (_∧_∧_∧_):=⟨hin,hcs,hown,hb⟩
    clear hin hcs hown hb hrow hb2 e0 e1 e2 r0 r1 r2 f0 f1 hB0
    go_wp2_with (first
     | (go_at_call 65;refine (IH.out a[j] _ _ (by omega) (by omega) ?hx).mono ?_;rotate_left 1;rintro e w2 ⟨v2,rfl,hin2,hb'⟩;obtain ⟨yk,yn,yad,ym,yc,rfl⟩:=hin2.shape;have HI2:Hid (_∧_):=⟨hin2,hb'⟩;clear hin2 hb')
     | (at_builtin;refine append_mine _ rfl (.tmp 13) (.tmp 16) 117 rfl W2.heap.size 119 i0 _ 3 40 Tryd.underlying117 hi hz0 hz1 hz2 rfl (by decide) _ j xs rfl (ownsRow_below HI.out.2.2.1 (below_seq (below_seq ((Below.refl _ _).alloc (Nat.le_refl _) _) HI2.out.2) ((Below.refl _ _).alloc (Nat.le_refl _) _))) ⟨w2.heap.size,0,none⟩ 1 1 [.int .i64 yk,.int .i64 yn,.slice yad ym yc] rfl rfl ?qc ?q1 (by decide) ?q3 ?q4 ?q5 ?_;rotate_left 5;intro v3 w3 hown3 hg3 hv3;have HI3:Hid (_∧_∧_):=⟨hown3,hg3,hv3⟩;clear hown3 hg3 hv3))
    case hx=>exact Ex.In.below ((Below.refl _ _).alloc (Nat.le_refl _) _) _ HI.out.1
    case qc=>exact fresh_cells w2 _ 119
    case q1=>intro u hu;simp at hu;rcases hu with rfl | rfl | rfl <;> rfl
    case q3=>unfold maxLen;omega
    case q4=>omega
    case q5=>have:=HI.out.2.2.2.size;have:=HI2.out.2.size;simp at this;simp;omega
    have R:=twinE_step hlt HI.out.2.1 HI.out.2.2.1 HI.out.2.2.2 (below_seq ((Below.refl _ _).alloc (Nat.le_refl _) _) HI2.out.2) (InP_weaken HI2.out.1 (by simp)) HI3.out.2.1 HI3.out.2.2
    go_roundw
    case rel=>exact ⟨j+1,_,by omega,by go_num,R.1,HI3.out.1,R.2⟩
    case measure=>simp [intOf];omega
   ·have hje:j=a.length:=by omega
    subst hje
    rw [List.take_length] at hcs
    obtain ⟨oad,oc,rfl,hend⟩:=twinE_end (k:=k) (n:=n) hcs hown
    have g0:=below_cell hb e0
    have g1:=below_cell hb e1
    have g2:=below_cell hb e2
    have s0:=below_cell hb r0
    have s1:=below_cell hb r1
    have s2:=below_cell hb r2
    have t0:∀ j,wr.frozen? ⟨w.heap.size,j,none⟩=false:=fun j=>(hb.frozen (p:=⟨w.heap.size,j,none⟩) (by simp;omega)).trans (f0 j)
    have t1:∀ j,wr.frozen? ⟨w.heap.size+1,j,none⟩=false:=fun j=>(hb.frozen (p:=⟨w.heap.size+1,j,none⟩) (by simp;omega)).trans (f1 j)
    have HE:Hid (_∧_∧_):=⟨hend,hb,hB0⟩
    clear hcs hown hend hb hB0 e0 e1 e2 r0 r1 r2 f0 f1
    go_wp2_with fail
    refine bodyPost_ret (v:=.agg #[.int .i64 k,.int .i64 n,.slice oad a.length oc]) (by simp [results,Tryd.results65,go_sem,s0,s1,s2]) rfl ⟨_,rfl,?_,?_⟩
    ·refine Ex.InP.move ?_ _ HE.out.1
     intro b hb _
     refine ⟨by omega,?_⟩
     rw [Below.heap_setCell _ _ _ _ (by simp;omega),Below.heap_setCell _ _ _ _ (by simp;omega),Below.heap_setCell _ _ _ _ (by simp;omega),Below.heap_setCell _ _ _ _ (by simp;omega)]
    ·exact ((((below_seq HE.out.2.2 HE.out.2.1).setCell (by simp) _).setCell (by simp) _).setCell (by simp) _).setCell (by simp) _
end Go.Proofs.YtnkgbkkakokciacDoor.B
namespace Go.Proofs.YtnkgbkkakokciacDoor.B
open Go.ChangeShapes Go.WideShapes Go.ChangeAt Go.RowKit
def rowBlk (w:World) (g:Nat):Prop:=∃ cur,w.heap[g]?=some (.cells cur 123 (0,0))
mutual
def St.InQ (p:Nat→Prop) (w:World):St→Value→List Nat→Prop
 | .mk k n e ck ca cb b l,v,bl=>∃ e0 e1 e2 a0 a1 a2 b0 b1 b2 sb sl,v = .agg #[.int .i64 k,.int .i64 n,e0,e1,e2,.int .i64 ck,a0,a1,a2,b0,b1,b2,sb,sl] ∧
   e.InP p w (.agg #[e0,e1,e2])∧ca.InP p w (.agg #[a0,a1,a2])∧cb.InP p w (.agg #[b0,b1,b2]) ∧
   ∃ q1 q2,bl=q1++q2 ∧
   (∃ ad c,sb = .slice ad b.length c∧((b=[]∧q1=[])∨b≠[]∧∃ g q,ad=some ⟨g,0,none⟩∧(p g∧rowBlk w g)∧q1=g::q∧St.RowQ p w b g 0 q)) ∧
   (∃ ad c,sl = .slice ad l.length c∧((l=[]∧q2=[])∨l≠[]∧∃ g q,ad=some ⟨g,0,none⟩∧(p g∧rowBlk w g)∧q2=g::q∧St.RowQ p w l g 0 q))
def St.RowQ (p:Nat→Prop) (w:World):List St→Nat→Nat→List Nat→Prop
 | [],_,_,bl=>bl=[]
 | s::r,g,o,bl=>∃ q1 q2,bl=q1++q2∧(∃ x:Nat→Value,(∀ j,j<14→w.cell? ⟨g,o+j,none⟩=some (x j))∧St.InQ p w s (stVal x) q1)∧St.RowQ p w r g (o+14) q2
end
def St.SlQ (p:Nat→Prop) (w:World) (b:List St) (v:Value) (bl:List Nat):Prop :=
 ∃ ad c,v = .slice ad b.length c∧((b=[]∧bl=[])∨b≠[]∧∃ g q,ad=some ⟨g,0,none⟩∧(p g∧rowBlk w g)∧bl=g::q∧St.RowQ p w b g 0 q)
mutual
theorem St.InQ.plain {p:Nat→Prop} {w:World}:∀ (s:St) {v:Value} {bl:List Nat},s.InQ p w v bl→s.In w v
 | .mk k n e ck ca cb b l,v,bl,h=>by
  unfold St.InQ at h
  unfold St.In
  obtain ⟨e0,e1,e2,a0,a1,a2,b0,b1,b2,sb,sl,hv,h1,h2,h3,q1,q2,hq,⟨ad,c,h4,h5⟩,⟨ad',c',h6,h7⟩⟩:=h
  refine ⟨e0,e1,e2,a0,a1,a2,b0,b1,b2,sb,sl,hv,h1.plain,h2.plain,h3.plain,⟨ad,c,h4,?_⟩,⟨ad',c',h6,?_⟩⟩
  ·rcases h5 with ⟨h,_⟩ | ⟨_,g,q,h1,_,_,h2⟩
   ·exact .inl h
   ·exact .inr ⟨g,0,h1,St.RowQ.plain b h2⟩
  ·rcases h7 with ⟨h,_⟩ | ⟨_,g,q,h1,_,_,h2⟩
   ·exact .inl h
   ·exact .inr ⟨g,0,h1,St.RowQ.plain l h2⟩
theorem St.RowQ.plain {p:Nat→Prop} {w:World}:∀ (a:List St) {g o:Nat} {bl:List Nat},St.RowQ p w a g o bl→St.Row w a g o
 | [],_,_,_,_=>by unfold St.Row;trivial
 | e::r,g,o,bl,h=>by
  unfold St.RowQ at h
  unfold St.Row
  obtain ⟨q1,q2,hq,⟨x,h0,h3⟩,h4⟩:=h
  exact ⟨⟨x,h0,St.InQ.plain e h3⟩,St.RowQ.plain r h4⟩
end
theorem St.SlQ.plain {p:Nat→Prop} {w:World} {b:List St} {v:Value} {bl:List Nat} (h:St.SlQ p w b v bl):St.Sl w b v:=by
 obtain ⟨ad,c,hv,h⟩:=h
 refine ⟨ad,c,hv,?_⟩
 rcases h with ⟨h,_⟩ | ⟨_,g,q,h1,_,_,h2⟩
 ·exact .inl h
 ·exact .inr ⟨g,0,h1,h2.plain⟩
theorem St.RowQ.lt {p:Nat→Prop} {w:World} {a:List St} {g o:Nat} {bl:List Nat} (h0:a≠[]) (h:St.RowQ p w a g o bl):g<w.heap.size:=by
 cases a with
 | nil=>exact absurd rfl h0
 | cons x r =>
  unfold St.RowQ at h
  obtain ⟨q1,q2,hq,⟨x,hx,_⟩,_⟩:=h
  exact World.block_lt_of_cell? _ _ (hx 0 (by omega))
theorem Moves.blk {p q:Nat→Prop} {w w':World} (h:Moves p q w w') {g:Nat} (hp:p g) (hb:rowBlk w g):rowBlk w' g:=by
 obtain ⟨cur,hc⟩:=hb
 exact ⟨cur,(h g hp (Array.getElem?_eq_some_iff.1 hc).1).2.trans hc⟩
mutual
theorem St.InQ.move {p q:Nat→Prop} {w w':World} (hm:Moves p q w w'):∀ (s:St) {v:Value} {bl:List Nat},s.InQ p w v bl→s.InQ q w' v bl
 | .mk k n e ck ca cb b l,v,bl,h=>by
  unfold St.InQ at h ⊢
  obtain ⟨e0,e1,e2,a0,a1,a2,b0,b1,b2,sb,sl,hv,h1,h2,h3,q1,q2,hq,⟨ad,c,h4,h5⟩,⟨ad',c',h6,h7⟩⟩:=h
  refine ⟨e0,e1,e2,a0,a1,a2,b0,b1,b2,sb,sl,hv,h1.move hm,h2.move hm,h3.move hm,q1,q2,hq,⟨ad,c,h4,?_⟩,⟨ad',c',h6,?_⟩⟩
  ·rcases h5 with h | ⟨hne,g,q,h1,hp,hq,h2⟩
   ·exact .inl h
   ·exact .inr ⟨hne,g,q,h1,⟨(hm g hp.1 (h2.lt hne)).1,hm.blk hp.1 hp.2⟩,hq,St.RowQ.move hm b hp.1 h2⟩
  ·rcases h7 with h | ⟨hne,g,q,h1,hp,hq,h2⟩
   ·exact .inl h
   ·exact .inr ⟨hne,g,q,h1,⟨(hm g hp.1 (h2.lt hne)).1,hm.blk hp.1 hp.2⟩,hq,St.RowQ.move hm l hp.1 h2⟩
theorem St.RowQ.move {p q:Nat→Prop} {w w':World} (hm:Moves p q w w'):∀ (a:List St) {g o:Nat} {bl:List Nat},p g→St.RowQ p w a g o bl→St.RowQ q w' a g o bl
 | [],_,_,_,_,h=>by unfold St.RowQ at h ⊢;exact h
 | e::r,g,o,bl,hp,h=>by
  unfold St.RowQ at h ⊢
  obtain ⟨q1,q2,hq,⟨x,h0,h3⟩,h4⟩:=h
  exact ⟨q1,q2,hq,⟨x,fun j hj=>hm.cell hp (h0 j hj),St.InQ.move hm e h3⟩,St.RowQ.move hm r hp h4⟩
end
theorem St.SlQ.move {p q:Nat→Prop} {w w':World} (hm:Moves p q w w') {b:List St} {v:Value} {bl:List Nat} (h:St.SlQ p w b v bl):St.SlQ q w' b v bl:=by
 obtain ⟨ad,c,hv,h⟩:=h
 refine ⟨ad,c,hv,?_⟩
 rcases h with h | ⟨hne,g,q,h1,hp,hq,h2⟩
 ·exact .inl h
 ·exact .inr ⟨hne,g,q,h1,⟨(hm g hp.1 (h2.lt hne)).1,hm.blk hp.1 hp.2⟩,hq,h2.move hm _ hp.1⟩
mutual
theorem St.InQ.blocks {p:Nat→Prop} {w:World}:∀ (s:St) {v:Value} {bl:List Nat},s.InQ p w v bl→∀ b ∈ bl,p b∧b<w.heap.size
 | .mk k n e ck ca cb b l,v,bl,h=>by
  unfold St.InQ at h
  obtain ⟨e0,e1,e2,a0,a1,a2,b0,b1,b2,sb,sl,hv,h1,h2,h3,q1,q2,hq,⟨ad,c,h4,h5⟩,⟨ad',c',h6,h7⟩⟩:=h
  subst hq
  intro x hx
  rcases List.mem_append.1 hx with hx | hx
  ·rcases h5 with ⟨_,h⟩ | ⟨hne,g,q,h1,hp,hq,h2⟩
   ·subst h;simp at hx
   ·subst hq
    rcases List.mem_cons.1 hx with hx | hx
    ·subst hx;exact ⟨hp.1,h2.lt hne⟩
    ·exact St.RowQ.blocks b h2 x hx
  ·rcases h7 with ⟨_,h⟩ | ⟨hne,g,q,h1,hp,hq,h2⟩
   ·subst h;simp at hx
   ·subst hq
    rcases List.mem_cons.1 hx with hx | hx
    ·subst hx;exact ⟨hp.1,h2.lt hne⟩
    ·exact St.RowQ.blocks l h2 x hx
theorem St.RowQ.blocks {p:Nat→Prop} {w:World}:∀ (a:List St) {g o:Nat} {bl:List Nat},St.RowQ p w a g o bl→∀ b ∈ bl,p b∧b<w.heap.size
 | [],_,_,_,h=>by unfold St.RowQ at h;subst h;intro x hx;simp at hx
 | e::r,g,o,bl,h=>by
  unfold St.RowQ at h
  obtain ⟨q1,q2,hq,⟨x,h0,h3⟩,h4⟩:=h
  subst hq
  intro x hx
  rcases List.mem_append.1 hx with hx | hx
  ·exact St.InQ.blocks e h3 x hx
  ·exact St.RowQ.blocks r h4 x hx
end
theorem St.SlQ.blocks {p:Nat→Prop} {w:World} {b:List St} {v:Value} {bl:List Nat} (h:St.SlQ p w b v bl):∀ x ∈ bl,p x∧x<w.heap.size:=by
 obtain ⟨ad,c,hv,h⟩:=h
 rcases h with ⟨_,h⟩ | ⟨hne,g,q,h1,hp,hq,h2⟩
 ·subst h;intro x hx;simp at hx
 ·subst hq
  intro x hx
  rcases List.mem_cons.1 hx with hx | hx
  ·subst hx;exact ⟨hp.1,h2.lt hne⟩
  ·exact h2.blocks _ x hx
def St.Cells (p:Nat→Prop) (w:World):List St→List Value→List Nat→Prop
 | [],xs,bl=>xs=[]∧bl=[]
 | s::r,xs,bl=>∃ x:Nat→Value,∃ ys q1 q2,xs=[x 0,x 1,x 2,x 3,x 4,x 5,x 6,x 7,x 8,x 9,x 10,x 11,x 12,x 13]++ys∧bl=q1++q2∧s.InQ p w (stVal x) q1∧St.Cells p w r ys q2
theorem St.Cells.move {p q:Nat→Prop} {w w':World} (hm:Moves p q w w'):∀ (a:List St) {xs:List Value} {bl:List Nat},St.Cells p w a xs bl→St.Cells q w' a xs bl
 | [],_,_,h=>h
 | e::r,xs,bl,h=>by
  obtain ⟨x,ys,q1,q2,hx,hq,h1,h2⟩:=h
  exact ⟨x,ys,q1,q2,hx,hq,h1.move hm,St.Cells.move hm r h2⟩
theorem St.Cells.blocks {p:Nat→Prop} {w:World}:∀ (a:List St) {xs:List Value} {bl:List Nat},St.Cells p w a xs bl→∀ b ∈ bl,p b∧b<w.heap.size
 | [],_,_,h=>by obtain ⟨_,h⟩:=h;subst h;intro b hb;simp at hb
 | e::r,xs,bl,h=>by
  obtain ⟨x,ys,q1,q2,hx,hq,h1,h2⟩:=h
  subst hq
  intro b hb
  rcases List.mem_append.1 hb with hb | hb
  ·exact St.InQ.blocks e h1 b hb
  ·exact St.Cells.blocks r h2 b hb
theorem St.Cells.snoc {p:Nat→Prop} {w:World} {e:St} {x:Nat→Value} {q:List Nat} (he:e.InQ p w (stVal x) q):∀ (a:List St) {xs:List Value} {bl:List Nat},St.Cells p w a xs bl →
  St.Cells p w (a++[e]) (xs++[x 0,x 1,x 2,x 3,x 4,x 5,x 6,x 7,x 8,x 9,x 10,x 11,x 12,x 13]) (bl++q)
 | [],xs,bl,h=>by
  obtain ⟨h1,h2⟩:=h
  subst h1 h2
  exact ⟨x,[],q,[],by simp,by simp,he,rfl,rfl⟩
 | y::r,xs,bl,h=>by
  obtain ⟨x',ys,q1,q2,hx,hq,h1,h2⟩:=h
  subst hx hq
  exact ⟨x',_,q1,q2++q,by simp,by simp,h1,St.Cells.snoc he r h2⟩
theorem St.Cells.row {p:Nat→Prop} {w:World} {g:Nat}:∀ (a:List St) {xs:List Value} {bl:List Nat} {o:Nat},St.Cells p w a xs bl→(∀ j u,xs[j]?=some u→w.cell? ⟨g,o+j,none⟩=some u)→St.RowQ p w a g o bl
 | [],_,_,_,h,_=>by unfold St.RowQ;exact h.2
 | e::r,xs,bl,o,h,hc=>by
  obtain ⟨x,ys,q1,q2,hx,hq,h1,h2⟩:=h
  subst hx hq
  unfold St.RowQ
  refine ⟨q1,q2,rfl,⟨x,fun j hj=>hc j _ ?_,h1⟩,St.Cells.row r h2 fun j u hj=>?_⟩
  ·match j,hj with
   | 0,_ | 1,_ | 2,_ | 3,_ | 4,_ | 5,_ | 6,_ | 7,_ | 8,_ | 9,_ | 10,_ | 11,_ | 12,_ | 13,_=>rfl
  ·have:=hc (j+14) u (by rw [List.getElem?_append_right (by simp)];simpa using hj)
   rwa [show o+(j+14)=o+14+j by omega] at this
mutual
def Ex.pre (m:Nat):Ex→List Ex
 | .mk k n a=>Ex.preAll m a [.mk k n a]
def Ex.preAll (m:Nat):List Ex→List Ex→List Ex
 | [],l=>l
 | x::r,l=>if m<l.length then l else Ex.preAll m r (l++x.pre m)
end
mutual
theorem Ex.In.old {w:World}:∀ (e:Ex) {v:Value},e.In w v→e.InP (fun b=>b<w.heap.size) w v
 | .mk k n a,v,h=>by
  unfold Ex.In at h
  unfold Ex.InP
  obtain ⟨ad,c,hv,h⟩:=h
  refine ⟨ad,c,hv,?_⟩
  rcases h with h | ⟨b,o,h1,h2⟩
  ·exact .inl h
  ·cases a with
   | nil=>exact .inl rfl
   | cons x r =>
    have hc:b<w.heap.size:=by
     unfold Ex.Row at h2
     obtain ⟨⟨x0,x1,x2,h0,_⟩,_⟩:=h2
     exact World.block_lt_of_cell? _ _ h0
    exact .inr ⟨b,o,h1,hc,Ex.Row.old _ h2⟩
theorem Ex.Row.old {w:World}:∀ (a:List Ex) {b o:Nat},Ex.Row w a b o→Ex.RowP (fun b=>b<w.heap.size) w a b o
 | [],_,_,_=>by unfold Ex.RowP;trivial
 | e::r,b,o,h=>by
  unfold Ex.Row at h
  unfold Ex.RowP
  obtain ⟨⟨x0,x1,x2,h0,h1,h2,h3⟩,h4⟩:=h
  exact ⟨⟨x0,x1,x2,h0,h1,h2,Ex.In.old e h3⟩,Ex.Row.old r h4⟩
end
theorem owns_value {w:World} {v:Value} {base n:Nat} {xs:List Value} {e:TypeId} {size:Nat} (h:w.ownsRow base e size v n xs):∃ ad cap,v = .slice ad n cap:=by
 rcases h.2 with ⟨rfl,rfl⟩ | ⟨g,cap,cur,rfl,_⟩
 ·exact ⟨_,_,rfl⟩
 ·exact ⟨_,_,rfl⟩
theorem Ex.RowP.at {p:Nat→Prop} {w:World}:∀ (a:List Ex) {b o:Nat},Ex.RowP p w a b o→∀ (j:Nat) (x:Ex),a[j]?=some x →
  ∃ x0 x1 x2,w.cell? ⟨b,o+j*3,none⟩=some x0∧w.cell? ⟨b,o+j*3+1,none⟩=some x1∧w.cell? ⟨b,o+j*3+2,none⟩=some x2∧Ex.InP p w x (.agg #[x0,x1,x2])
 | [],_,_,_,_,_,h=>by simp at h
 | e::r,b,o,h,0,x,hx=>by
  unfold Ex.RowP at h
  simp at hx
  subst hx
  simpa using h.1
 | e::r,b,o,h,j+1,x,hx=>by
  unfold Ex.RowP at h
  have:=Ex.RowP.at r h.2 j x (by simpa using hx)
  have e0:o+3+j*3=o+(j+1)*3:=by omega
  rwa [e0] at this
theorem Ex.RowP.shape {p:Nat→Prop} {w:World} {a:List Ex} {b o:Nat} (h:Ex.RowP p w a b o) {j:Nat} (hj:j<a.length) :
  ∃ k n ad m c,w.cell? ⟨b,o+j*3,none⟩=some (.int .i64 k)∧w.cell? ⟨b,o+j*3+1,none⟩=some (.int .i64 n)∧w.cell? ⟨b,o+j*3+2,none⟩=some (.slice ad m c) ∧
   Ex.InP p w a[j] (.agg #[.int .i64 k,.int .i64 n,.slice ad m c]):=by
 obtain ⟨x0,x1,x2,c0,c1,c2,hin⟩:=Ex.RowP.at a h j a[j] (by simp [hj])
 obtain ⟨k,n,ad,m,c,hv⟩:=hin.shape
 simp only [Value.agg.injEq,Array.mk.injEq,List.cons.injEq,and_true] at hv
 obtain ⟨rfl,rfl,rfl⟩:=hv
 exact ⟨_,_,_,_,_,c0,c1,c2,hin⟩
def Ex.k:Ex→Int | .mk k _ _=>k
def Ex.n:Ex→Int | .mk _ n _=>n
def Ex.a:Ex→List Ex | .mk _ _ a=>a
def arity (k:Int):Int:=if k=1∨k=2∨k=3 then 0 else if k=4 then 1 else if k=5∨k=6∨k=7 then 2 else -1
def mostN (k:Int):Int:=if k=1 then 999999999 else if k=2 then 7 else if k=3 then 3 else 0
def Ex.err (x:Ex):Int:=if (x.a.length:Int)≠arity x.k then 6 else if x.n<0∨x.n > mostN x.k then 3 else 0
def wrongL:List Ex→Nat→Int
 | [],_=>0
 | x::r,j=>if j=30 then 2 else if x.err≠0 then x.err else wrongL r (j+1)
def exNone (k n:Int) (m:Nat):Bool:=decide (k=0)&&decide (n=0)&&decide (m=0)
theorem isNone_any (k n:Int) (ad:Option Addr) (m c:Nat) (w:World) :
  Calls Tryd.prog 152 #[.agg #[.int .i64 k,.int .i64 n,.slice ad m c]] w fun r w'=>r = .returned (.bool (exNone k n m))∧Below w.heap.size w w':=by
 have hb:∀ o,Below w.heap.size w (w.alloc o):=fun o=>(Below.refl _ _).alloc (Nat.le_refl _) o
 by_cases h1:k=0
 ·by_cases h2:n=0
  ·subst h1 h2
   have hx:Hid (exNone 0 0 m=((m:Int) == 0)):=by unfold Hid exNone;rw [Bool.eq_iff_iff];simp
   go_enter Tryd.func152,Tryd.ntmps152
   go_wp2
   go_ret
   exact ⟨ret_bool hx.out.symm,hb _⟩
  ·have hx:Hid (exNone k n m=false):=by unfold Hid exNone;simp [h2]
   have h2':(n == 0)=false:=by simpa using h2
   subst h1
   go_enter Tryd.func152,Tryd.ntmps152
   go_wp2
   go_ret
   exact ⟨ret_bool hx.out.symm,hb _⟩
 ·have hx:Hid (exNone k n m=false):=by unfold Hid exNone;simp [h1]
  have h1':(k == 0)=false:=by simpa using h1
  go_enter Tryd.func152,Tryd.ntmps152
  go_wp2
  go_ret
  exact ⟨ret_bool hx.out.symm,hb _⟩
set_option maxHeartbeats 1000000 in
theorem first_any (n:Nat) (hn:n≤100) (g cap:Nat) (fid:Nat→FuncId) (caps:Nat→Array Value) (P:Nat→World→Prop) (Q:Int→World→Prop)
  (hcell:∀ i,i<n→∀ w,P i w→w.cell? ⟨g,i,none⟩=some (.func (.func (fid i)) #[] (caps i)))
  (hcall:∀ i,i<n→∀ w,P i w→Calls Tryd.prog (fid i) (caps i) w fun e w'=>∃ c,e = .returned (.int .i64 c)∧((c=0∧P (i+1) w')∨(c≠0∧Q c w')))
  (hent:∀ i,i<n→∀ cp w,(callFunc (fid i) cp).run Tryd.prog w = .ok (.enter (fid i) cp) w) (w:World) (hP:P 0 w) :
  Calls Tryd.prog 136 #[.slice (some ⟨g,0,none⟩) n cap] w fun e w'=>∃ c,e = .returned (.int .i64 c)∧((c=0∧P n w')∨(c≠0∧Q c w')):=by
 have HH:Hid (_∧_∧_):=⟨hcell,hcall,hent⟩
 clear hcell hcall hent
 go_enter Tryd.func136,Tryd.ntmps136
 go_wp2_with fail
 go_loopw [4,5,8] (fun _ _ i wr=>∃ j:Nat,j≤n∧i = .int .i64 j∧P j wr) (fun _ _ i _=>n - (intOf i).toNat)
 case atStart=>exact ⟨0,Nat.zero_le _,rfl,hP⟩
 case round =>
  obtain ⟨j,hj,rfl,hPj⟩:=hrel
  by_cases hlt:j<n
  ·have hc:=HH.out.1 j hlt wr hPj
   have hcl:=HH.out.2.1 j hlt wr hPj
   have HC:Hid (Calls Tryd.prog (fid j) (caps j) wr fun e w'=>∃ c,e = .returned (.int .i64 c)∧((c=0∧P (j+1) w')∨(c≠0∧Q c w'))):=hcl
   have hen:=HH.out.2.2 j hlt
   clear hcl
   generalize caps j=cp at *
   generalize fid j=fd at *
   go_wp2_with fail
   refine HC.out.mono ?_
   rintro e w' ⟨c,rfl,hor⟩
   by_cases hc0:c=0
   ·have HO:Hid (P (j+1) w'):=by
     rcases hor with ⟨_,h⟩ | ⟨h,_⟩
     ·exact h
     ·exact absurd hc0 h
    subst hc0
    clear hor
    go_wp2_with fail
    go_roundw
    case rel=>exact ⟨j+1,by omega,by go_num,HO.out⟩
    case measure=>simp [intOf];omega
   ·have HO:Hid (Q c w'):=by
     rcases hor with ⟨h,_⟩ | ⟨_,h⟩
     ·exact absurd h hc0
     ·exact h
    have hc0':(c == 0)=false:=by simpa using hc0
    clear hor
    go_wp2_with fail
    go_ret
    exact ⟨c,rfl,.inr ⟨hc0,HO.out⟩⟩
  ·have hje:j=n:=by omega
   subst hje
   have HP:Hid (P j wr):=hPj
   clear hPj
   go_wp2_with fail
   go_ret
   exact ⟨0,rfl,.inl ⟨rfl,HP.out⟩⟩
theorem run_enter {f:FuncId} {fn:Func} (hf:Tryd.prog.funcs[f]?=some fn) (hname:(fn.name == "runtime.NumGoroutine")=false) (hb:fn.body.isNone=false) (cp:Array Value) (w:World):(callFunc f cp).run Tryd.prog w = .ok (.enter f cp) w:=by
 have hn:¬ fn.name= "runtime.NumGoroutine":=by simpa using hname
 have hb':¬ fn.body=none:=by intro h;rw [h] at hb;cases hb
 unfold callFunc
 simp [hf,hn,hb']
theorem ent36 (cp:Array Value) (w:World):(callFunc 151 cp).run Tryd.prog w = .ok (.enter 151 cp) w:=run_enter Tryd.func151 (by kernel_rfl) (by kernel_rfl) cp w
theorem needs_any (b:Bool) (c:Int) (w:World):Calls Tryd.prog 137 #[.bool b,.int .i64 c] w fun r w'=>r = .returned (.func (.func 151) #[] #[.pointer (some ⟨w.heap.size,0,none⟩),.pointer (some ⟨w.heap.size+1,0,none⟩)]) ∧
  w'=(w.alloc (.cells #[.bool b] 4)).alloc (.cells #[.int .i64 c] 28):=by
 go_enter Tryd.func137,Tryd.ntmps137
 go_wp2
 go_ret
 exact ⟨rfl,rfl⟩
theorem needs1_any (p q:Nat) (b:Bool) (c:Int) (w:World) (h1:w.cell? ⟨p,0,none⟩=some (.bool b)) (h2:w.cell? ⟨q,0,none⟩=some (.int .i64 c)) :
  Calls Tryd.prog 151 #[.pointer (some ⟨p,0,none⟩),.pointer (some ⟨q,0,none⟩)] w fun r w'=>r = .returned (.int .i64 (if b then 0 else c))∧w'=w:=by
 cases b
 ·go_enter Tryd.func151,Tryd.ntmps151
  go_wp2
  go_ret
  exact ⟨rfl,rfl⟩
 ·go_enter Tryd.func151,Tryd.ntmps151
  go_wp2
  go_ret
  exact ⟨rfl,rfl⟩
theorem only_any (b:Bool) (f:FuncId) (cs:Array Value) (w:World):Calls Tryd.prog 139 #[.bool b,.func (.func f) #[] cs] w fun r w'=>r = .returned (if b then .func (.func f) #[] cs else .func (.func 153) #[] #[])∧w'=w:=by
 cases b
 ·go_enter Tryd.func139,Tryd.ntmps139
  go_wp2
  go_ret
  exact ⟨rfl,rfl⟩
 ·go_enter Tryd.func139,Tryd.ntmps139
  go_wp2
  go_ret
  exact ⟨rfl,rfl⟩
theorem only1_any (w:World):Calls Tryd.prog 153 #[] w fun r w'=>r = .returned (.int .i64 0)∧w'=w:=by
 go_enter Tryd.func153,Tryd.ntmps153
 go_wp2
 go_ret
 exact ⟨rfl,rfl⟩
theorem expr_any (k n:Int) (ad:Option Addr) (m c:Nat) (w:World):Calls Tryd.prog 140 #[.agg #[.int .i64 k,.int .i64 n,.slice ad m c]] w fun r w'=>r = .returned (.func (.func 154) #[] #[.pointer (some ⟨w.heap.size,0,none⟩)]) ∧
  w'=w.alloc (.cells #[.int .i64 k,.int .i64 n,.slice ad m c] 119):=by
 go_enter Tryd.func140,Tryd.ntmps140
 go_wp2
 go_ret
 exact ⟨rfl,rfl⟩
theorem cond_any (ck ak an bk bn:Int) (aad bad:Option Addr) (am ac bm bc:Nat) (w:World):Calls Tryd.prog 141 #[.agg #[.int .i64 ck,.int .i64 ak,.int .i64 an,.slice aad am ac,.int .i64 bk,.int .i64 bn,.slice bad bm bc]] w fun r w' =>
  r = .returned (.func (.func 156) #[] #[.pointer (some ⟨w.heap.size,0,none⟩)])∧w'=w.alloc (.cells #[.int .i64 ck,.int .i64 ak,.int .i64 an,.slice aad am ac,.int .i64 bk,.int .i64 bn,.slice bad bm bc] 121):=by
 go_enter Tryd.func141,Tryd.ntmps141
 go_wp2
 go_ret
 exact ⟨rfl,rfl⟩
mutual
def Ex.node:Ex→Nat→Int × Nat
 | .mk k n a,c=>if 30<c+1 then (2,c+1) else if (Ex.mk k n a).err≠0 then ((Ex.mk k n a).err,c+1) else Ex.nodeAll a (c+1)
def Ex.nodeAll:List Ex→Nat→Int × Nat
 | [],c=>(0,c)
 | x::r,c=>if (x.node c).1≠0 then x.node c else Ex.nodeAll r (x.node c).2
end
mutual
theorem Ex.node_le:∀ (e:Ex) (c:Nat),(e.node c).1=0→(e.node c).2≤30
 | .mk k n a,c,h=>by
  unfold Ex.node at h ⊢
  by_cases h30:30<c+1
  ·rw [if_pos h30] at h;simp at h
  ·rw [if_neg h30] at h ⊢
   by_cases hE:(Ex.mk k n a).err≠0
   ·rw [if_pos hE] at h;exact absurd h hE
   ·rw [if_neg hE] at h ⊢
    exact Ex.nodeAll_le a (c+1) (by omega) h
theorem Ex.nodeAll_le:∀ (a:List Ex) (c:Nat),c≤30→(Ex.nodeAll a c).1=0→(Ex.nodeAll a c).2≤30
 | [],c,hc,_=>by unfold Ex.nodeAll;exact hc
 | x::r,c,hc,h=>by
  unfold Ex.nodeAll at h ⊢
  by_cases hx:(x.node c).1≠0
  ·rw [if_pos hx] at h;exact absurd h hx
  ·rw [if_neg hx] at h ⊢
   exact Ex.nodeAll_le r _ (Ex.node_le x c (by simpa using hx)) h
end
theorem Ex.nodeAll_at {a:List Ex} {j:Nat} (h:j<a.length) (c:Nat):Ex.nodeAll (a.drop j) c=if ((a[j]).node c).1≠0 then (a[j]).node c else Ex.nodeAll (a.drop (j+1)) ((a[j]).node c).2:=by
 rw [drop_at h,Ex.nodeAll]
structure But (q:Nat) (w w':World):Prop where
 os:w'.os=w.os
 tape:w'.tape=w.tape
 output:w'.output=w.output
 size:w.heap.size≤w'.heap.size
 block:∀ k,k<w.heap.size→k≠q→w'.heap[k]?=w.heap[k]?
theorem But.trans {q:Nat} {a b c:World} (h:But q a b) (h':But q b c):But q a c :=
 ⟨h'.os.trans h.os,h'.tape.trans h.tape,h'.output.trans h.output,Nat.le_trans h.size h'.size,fun k hk hq=>(h'.block k (by have:=h.size;omega) hq).trans (h.block k hk hq)⟩
theorem But.of_below {q:Nat} {a b:World} (h:Below a.heap.size a b):But q a b:=⟨h.os,h.tape,h.output,h.size,fun k hk _=>h.block k hk⟩
theorem But.setCell {q:Nat} {w:World} {o:Nat} {v:Value}:But q w (w.setCell ⟨q,o,none⟩ v):=⟨rfl,rfl,rfl,by simp [World.setCell],fun k _ hq=>Below.heap_setCell _ _ _ _ hq⟩
theorem But.cell {q:Nat} {w w':World} (h:But q w w') {b o:Nat} {v:Value} (hb:b≠q) (hc:w.cell? ⟨b,o,none⟩=some v):w'.cell? ⟨b,o,none⟩=some v :=
 (World.cell?_of_block (h.block b (World.block_lt_of_cell? _ _ hc) hb)).trans hc
theorem But.moves {q:Nat} {w w':World} (h:But q w w'):Moves (fun b=>b≠q) (fun b=>b≠q) w w':=fun b hb hlt=>⟨hb,h.block b hlt hb⟩
def FormsIn (w:World):Prop:=∀ m:Nat,1≤m→m<8→w.cell? ⟨5,m*2,none⟩=some (.int .i64 (mostN m))∧w.cell? ⟨5,m*2+1,none⟩=some (.int .i64 (arity m))
theorem FormsIn.but {q:Nat} {w w':World} (hq:q≠5) (h:FormsIn w) (hb:But q w w'):FormsIn w':=fun m h1 h2=>⟨hb.cell (by omega) (h m h1 h2).1,hb.cell (by omega) (h m h1 h2).2⟩
theorem node_head {w:World} {q c:Nat} (k n:Int) (ad:Option Addr) (m ca:Nat) (hq:w.heap[q]?=some (.cells #[.int .i64 c] 3 (0,0))) :
  ∃ W,W=(w.setCell ⟨q,0,none⟩ (.int .i64 (c+1))).alloc (.cells #[.int .i64 k,.int .i64 n,.slice ad m ca] 119)∧W.heap[q]?=some (.cells #[.int .i64 ((c+1:Nat):Int)] 3 (0,0))∧But q w W∧W.heap.size=w.heap.size+1 ∧
  W.cell? ⟨w.heap.size,0,none⟩=some (.int .i64 k)∧W.cell? ⟨w.heap.size,1,none⟩=some (.int .i64 n)∧W.cell? ⟨w.heap.size,2,none⟩=some (.slice ad m ca):=by
 have hql:q<w.heap.size:=lt_of_block hq
 have hs:(w.setCell ⟨q,0,none⟩ (.int .i64 (c+1))).heap.size=w.heap.size:=by simp [World.setCell]
 have hc:∀ (i:Nat) (u:Value),#[Value.int .i64 k,.int .i64 n,.slice ad m ca][i]?=some u→((w.setCell ⟨q,0,none⟩ (.int .i64 (c+1))).alloc (.cells #[.int .i64 k,.int .i64 n,.slice ad m ca] 119)).cell? ⟨w.heap.size,i,none⟩=some u:=by
  intro i u hu
  rw [World.cell?_alloc_at _ _ _ _ hs.symm]
  exact hu
 refine ⟨_,rfl,?_,But.setCell.trans (But.of_below ((Below.refl _ _).alloc (Nat.le_refl _) _)),by simp [World.setCell],hc 0 _ rfl,hc 1 _ rfl,hc 2 _ rfl⟩
 have:=one_setCell (u:=.int .i64 (c+1)) hq
 refine (Below.heap_alloc _ _ _ (by rw [hs];exact hql)).trans ?_
 simpa using this
set_option maxHeartbeats 2000000 in
theorem node_any (N:Nat):∀ (e:Ex) (w:World) (v:Value) (q c:Nat),e.nodes<N→N≤1048577→c≤1000000→q≠5→w.heap[q]?=some (.cells #[.int .i64 c] 3 (0,0))→FormsIn w→e.InP (fun b=>b≠q) w v →
  Calls Tryd.prog 155 #[v,.pointer (some ⟨q,0,none⟩)] w fun r w'=>r = .returned (.int .i64 (e.node c).1)∧w'.heap[q]?=some (.cells #[.int .i64 (e.node c).2] 3 (0,0))∧But q w w':=by
 induction N with
 | zero=>intro e w v q c h;omega
 | succ N ih =>
  intro e w v q c hN hle hc hq1 hq hfm hin
  obtain ⟨k,n,a⟩:=e
  unfold Ex.nodes at hN
  have hlen:=length_le_nodesAll a
  have hin0:=hin
  unfold Ex.InP at hin
  obtain ⟨ad,ca,rfl,hrow⟩:=hin
  have hqc:w.cell? ⟨q,0,none⟩=some (.int .i64 c):=cell_of_one hq
  have hqf:w.frozen? ⟨q,0,none⟩=false:=free_of_one hq
  have hql:q<w.heap.size:=lt_of_block hq
  have HR:Hid (_∧_∧_∧(a=[]∨∃ b o,ad=some ⟨b,o,none⟩∧b≠q∧Ex.RowP (fun b=>b≠q) w a b o)):=⟨hq,hfm,hin0,hrow⟩
  have IH:Hid _:=ih
  clear hrow hin0 ih hfm hq
  obtain ⟨W,hWe,hWq,hWb,hz,f0,f1,f2⟩:=node_head (w:=w) (q:=q) (c:=c) k n ad a.length ca HR.out.1
  have hWc:W.cell? ⟨q,0,none⟩=some (.int .i64 (c+1)):=by simpa using cell_of_one hWq
  have hWf:W.frozen? ⟨q,0,none⟩=false:=free_of_one hWq
  have HW:Hid (_∧_):=⟨hWq,hWb⟩
  have hcn:c+1≤1000001:=by omega
  clear hWq hWb
  by_cases h30:30<c+1
  ·have hn:Hid ((Ex.mk k n a).node c=(2,c+1)):=by unfold Hid Ex.node;rw [if_pos h30]
   go_enter Tryd.func155,Tryd.ntmps155
   go_upto_region 2 with fail
   rw [← hWe]
   clear hWe
   go_wp2_with fail
   go_ret
   exact ⟨ret_int (by rw [hn.out]),by rw [hn.out];exact HW.out.1,HW.out.2⟩
  by_cases hE:(Ex.mk k n a).err≠0
  ·have hn:Hid ((Ex.mk k n a).node c=((Ex.mk k n a).err,c+1)):=by unfold Hid Ex.node;rw [if_neg h30,if_pos hE]
   by_cases hk:k<1∨8≤k
   ·have he:Hid ((Ex.mk k n a).err=6):=by
     have h1:arity k=-1:=by unfold arity;rw [if_neg (by omega),if_neg (by omega),if_neg (by omega)]
     unfold Hid Ex.err
     rw [if_pos (by show (a.length:Int)≠arity k;omega)]
    clear hE
    go_enter Tryd.func155,Tryd.ntmps155
    go_upto_region 2 with fail
    rw [← hWe]
    clear hWe
    go_wp2_with fail
    rcases hk with hk | hk
    ·go_quiet (fail)
     go_wp2_with fail
     go_ret
     exact ⟨ret_int (by rw [hn.out,he.out]),by rw [hn.out];exact HW.out.1,HW.out.2.trans ⟨rfl,rfl,rfl,Nat.le_refl _,fun _ _ _=>rfl⟩⟩
    ·have hd1:decide (k<1)=false:=decide_eq_false (by omega)
     go_quiet (fail)
     go_wp2_with fail
     go_ret
     exact ⟨ret_int (by rw [hn.out,he.out]),by rw [hn.out];exact HW.out.1,HW.out.2.trans ⟨rfl,rfl,rfl,Nat.le_refl _,fun _ _ _=>rfl⟩⟩
   ·obtain ⟨m,rfl⟩:∃ m:Nat,k=m:=⟨k.toNat,by omega⟩
    have hm1:1≤m:=by omega
    have hm8:m<8:=by omega
    have hd1:decide ((m:Int)<1)=false:=decide_eq_false (by omega)
    have hd2:decide ((8:Int)≤(m:Int))=false:=decide_eq_false (by omega)
    have hfm:=HR.out.2.1 m hm1 hm8
    have q1:=HW.out.2.cell (by omega) hfm.1
    have q2:=HW.out.2.cell (by omega) hfm.2
    clear hfm
    by_cases hA:(a.length:Int)=arity m
    ·have hA':((a.length:Int) == arity m)=true:=by simpa using hA
     have he:Hid ((Ex.mk (m:Int) n a).err=3):=by
      unfold Hid Ex.err at *
      rw [if_neg (by show ¬ (a.length:Int)≠arity m;omega)] at hE ⊢
      by_cases h:(Ex.mk (m:Int) n a).n<0∨(Ex.mk (m:Int) n a).n > mostN (Ex.mk (m:Int) n a).k
      ·rw [if_pos h]
      ·rw [if_neg h] at hE;exact absurd rfl hE
     have hr:n<0∨n > mostN m:=by
      by_cases h:n<0∨n > mostN m
      ·exact h
      ·exfalso
       have:=he.out
       unfold Ex.err at this
       rw [if_neg (by show ¬ (a.length:Int)≠arity m;omega),if_neg (by show ¬ (n<0∨n > mostN m);exact h)] at this
       omega
     clear hE
     rw [← hA] at q2
     generalize hmo:mostN (m:Int)=mo at *
     clear hmo
     go_enter Tryd.func155,Tryd.ntmps155
     go_upto_region 2 with fail
     rw [← hWe]
     clear hWe
     go_wp2_with fail
     go_quiet (fail)
     go_wp2_with fail
     by_cases hn0:n<0
     ·go_quiet (fail)
      go_wp2_with fail
      go_ret
      exact ⟨ret_int (by rw [hn.out,he.out]),by rw [hn.out];exact HW.out.1,HW.out.2.trans ⟨rfl,rfl,rfl,Nat.le_refl _,fun _ _ _=>rfl⟩⟩
     ·have hd3:decide (n<0)=false:=decide_eq_false hn0
      have hgt:mo<n:=by omega
      go_quiet (fail)
      go_wp2_with fail
      go_ret
      exact ⟨ret_int (by rw [hn.out,he.out]),by rw [hn.out];exact HW.out.1,HW.out.2.trans ⟨rfl,rfl,rfl,Nat.le_refl _,fun _ _ _=>rfl⟩⟩
    ·have hA':((a.length:Int) == arity m)=false:=by simpa using hA
     have he:Hid ((Ex.mk (m:Int) n a).err=6):=by
      unfold Hid Ex.err
      rw [if_pos (by show (a.length:Int)≠arity m;exact hA)]
     clear hE
     generalize hmo:arity (m:Int)=ar at *
     clear hmo
     go_enter Tryd.func155,Tryd.ntmps155
     go_upto_region 2 with fail
     rw [← hWe]
     clear hWe
     go_wp2_with fail
     go_quiet (fail)
     go_wp2_with fail
     go_ret
     exact ⟨ret_int (by rw [hn.out,he.out]),by rw [hn.out];exact HW.out.1,HW.out.2.trans ⟨rfl,rfl,rfl,Nat.le_refl _,fun _ _ _=>rfl⟩⟩
  ·have hn:Hid ((Ex.mk k n a).node c=Ex.nodeAll a (c+1)):=by unfold Hid Ex.node;rw [if_neg h30,if_neg hE]
   have hA:(a.length:Int)=arity k∧¬ (n<0∨n > mostN k):=by
    unfold Ex.err at hE
    by_cases h1:(a.length:Int)=arity k
    ·refine ⟨h1,fun h2=>hE ?_⟩
     rw [if_neg (by show ¬ (a.length:Int)≠arity k;omega),if_pos (by show n<0∨n > mostN k;exact h2)]
     omega
    ·exfalso
     apply hE
     rw [if_pos (by show (a.length:Int)≠arity k;exact h1)]
     omega
   have hk:1≤k∧k<8:=by
    have h0:0≤arity k:=by omega
    unfold arity at h0
    by_cases h1:k=1∨k=2∨k=3
    ·omega
    ·rw [if_neg h1] at h0
     by_cases h2:k=4
     ·omega
     ·rw [if_neg h2] at h0
      by_cases h3:k=5∨k=6∨k=7
      ·omega
      ·rw [if_neg h3] at h0;omega
   obtain ⟨m,rfl⟩:∃ m:Nat,k=m:=⟨k.toNat,by omega⟩
   have hm1:1≤m:=by omega
   have hm8:m<8:=by omega
   have hd1:decide ((m:Int)<1)=false:=decide_eq_false (by omega)
   have hd2:decide ((8:Int)≤(m:Int))=false:=decide_eq_false (by omega)
   have hfm:=HR.out.2.1 m hm1 hm8
   have q1:=HW.out.2.cell (by omega) hfm.1
   have q2:=HW.out.2.cell (by omega) hfm.2
   obtain ⟨hA1,hA2⟩:=hA
   rw [← hA1] at q2
   generalize hmo:mostN (m:Int)=mo at *
   have hn0:0≤n:=by omega
   have hn1:n≤mo:=by omega
   have hd3:decide (n<0)=false:=decide_eq_false (by omega)
   have hd4:decide (mo<n)=false:=decide_eq_false (by omega)
   clear hmo hA2 hA1 hE hfm hk
   go_enter Tryd.func155,Tryd.ntmps155
   go_upto_region 2 with fail
   rw [← hWe]
   clear hWe
   go_wp2_with fail
   go_quiet (fail)
   go_wp2_with fail
   go_quiet (fail)
   go_wp2_with fail
   go_loopw [4,6,7,52] (fun _ _ _ i wr=>∃ (j c':Nat),j≤a.length∧i = .int .i64 j∧c'≤30∧Ex.nodeAll (a.drop j) c'=Ex.nodeAll a (c+1)∧wr.heap[q]?=some (.cells #[.int .i64 c'] 3 (0,0))∧But q w wr) (fun _ _ _ i _=>a.length - (intOf i).toNat)
   case atStart=>exact ⟨0,c+1,Nat.zero_le _,rfl,by omega,rfl,HW.out.1,HW.out.2.trans ⟨rfl,rfl,rfl,Nat.le_refl _,fun _ _ _=>rfl⟩⟩
   case round =>
    obtain ⟨j,c',hj,rfl,hc30,hna,hwq,hb⟩:=hrel
    by_cases hlt:j<a.length
    ·rcases HR.out.2.2.2 with h | ⟨b,o,had,hbq,hrow⟩
     ·subst h;simp at hlt
     subst had
     obtain ⟨xk,xn,xad,xm,xc,c0,c1,c2,hinx⟩:=(Ex.RowP.move hb.moves a hbq hrow).shape hlt
     have hnn:=nodesAll_at a j a[j] (by simp [hlt])
     rw [Ex.nodeAll_at hlt] at hna
     have HX:Hid (_∧_∧_∧_):=⟨hinx,hna,hwq,hb⟩
     clear hinx hna hwq hb hrow
     generalize a[j]=x at *
     by_cases he0:(x.node c').1=0
     ·have HZ:Hid _:=he0
      go_wp2_with (first
       | (go_at_call 155;refine (IH.out x _ _ q c' (by omega) (by omega) (by omega) hq1 ?h1 ?h2 ?h3).mono ?_;rotate_left 3;rintro e w3 ⟨rfl,hq3,hb3⟩;have H3:Hid (_∧_):=⟨hq3,hb3⟩;clear hq3 hb3))
      case h1=>exact (Below.heap_alloc _ _ _ (lt_of_block HX.out.2.2.1)).trans HX.out.2.2.1
      case h2=>exact FormsIn.but hq1 HR.out.2.1 (HX.out.2.2.2.trans (But.of_below ((Below.refl _ _).alloc (Nat.le_refl _) _)))
      case h3=>exact HX.out.1.move (But.of_below ((Below.refl _ _).alloc (Nat.le_refl _) _)).moves
      have hna:=HX.out.2.1
      rw [if_neg (by simpa using HZ.out)] at hna
      go_roundw
      case rel=>exact ⟨j+1,(x.node c').2,by omega,by go_num,Ex.node_le x c' HZ.out,hna,H3.out.1,HX.out.2.2.2.trans ((But.of_below ((Below.refl _ _).alloc (Nat.le_refl _) _)).trans H3.out.2)⟩
      case measure=>simp [intOf];omega
     ·have he1:((x.node c').1 == 0)=false:=by simpa using he0
      have HZ:Hid (¬ (x.node c').1=0):=he0
      clear he0
      go_wp2_with (first
       | (go_at_call 155;refine (IH.out x _ _ q c' (by omega) (by omega) (by omega) hq1 ?h1 ?h2 ?h3).mono ?_;rotate_left 3;rintro e w3 ⟨rfl,hq3,hb3⟩;have H3:Hid (_∧_):=⟨hq3,hb3⟩;clear hq3 hb3))
      case h1=>exact (Below.heap_alloc _ _ _ (lt_of_block HX.out.2.2.1)).trans HX.out.2.2.1
      case h2=>exact FormsIn.but hq1 HR.out.2.1 (HX.out.2.2.2.trans (But.of_below ((Below.refl _ _).alloc (Nat.le_refl _) _)))
      case h3=>exact HX.out.1.move (But.of_below ((Below.refl _ _).alloc (Nat.le_refl _) _)).moves
      have hna:=HX.out.2.1
      rw [if_pos HZ.out] at hna
      go_ret
      exact ⟨ret_int (by rw [hn.out,← hna]),by rw [hn.out,← hna];exact H3.out.1,HX.out.2.2.2.trans ((But.of_below ((Below.refl _ _).alloc (Nat.le_refl _) _)).trans H3.out.2)⟩
    ·have hje:j=a.length:=by omega
     subst hje
     rw [List.drop_length,Ex.nodeAll] at hna
     have HX:Hid (_∧_∧_):=⟨hna,hwq,hb⟩
     clear hna hwq hb
     go_wp2_with fail
     go_ret
     exact ⟨ret_int (by rw [hn.out,← HX.out.1]),by rw [hn.out,← HX.out.1];exact HX.out.2.1,HX.out.2.2⟩
end Go.Proofs.YtnkgbkkakokciacDoor.B
