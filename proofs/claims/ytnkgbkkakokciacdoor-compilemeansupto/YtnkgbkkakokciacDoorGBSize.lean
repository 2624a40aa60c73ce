import Derived.Test.YtnkgbkkakokciacDoorRows
import Derived.WalkKit
import Derived.ProofKit
import Derived.OpenShut
import Derived.Handy
import Derived.Deep.QuietTactic
import Derived.BigQuiet
import Derived.Deep.RegionHeld3
import Derived.ChangeArms
import Derived.Laws.AppendOwnNone
namespace Go.Proofs.YtnkgbkkakokciacDoor.B
open Go.ChangeShapes Go.WideShapes Go.ChangeAt Go.RowKit
inductive Ex where
 | mk (k n:Int) (a:List Ex)
inductive St where
 | mk (k n:Int) (e:Ex) (ck:Int) (ca cb:Ex) (b l:List St)
mutual
def Ex.nodes:Ex→Nat
 | .mk _ _ a=>1+Ex.nodesAll a
def Ex.nodesAll:List Ex→Nat
 | []=>0
 | x::r=>x.nodes+Ex.nodesAll r
end
mutual
def St.bulk:St→Nat
 | .mk _ _ e _ ca cb b l=>1+e.nodes+ca.nodes+cb.nodes+St.bulkAll b+St.bulkAll l
def St.bulkAll:List St→Nat
 | []=>0
 | x::r=>x.bulk+St.bulkAll r
end
mutual
def Ex.In (w:World):Ex→Value→Prop
 | .mk k n a,v=>∃ ad c,v = .agg #[.int .i64 k,.int .i64 n,.slice ad a.length c]∧(a=[]∨∃ b o,ad=some ⟨b,o,none⟩∧Ex.Row w a b o)
def Ex.Row (w:World):List Ex→Nat→Nat→Prop
 | [],_,_=>True
 | e::r,b,o=>(∃ x0 x1 x2,w.cell? ⟨b,o,none⟩=some x0∧w.cell? ⟨b,o+1,none⟩=some x1∧w.cell? ⟨b,o+2,none⟩=some x2∧Ex.In w e (.agg #[x0,x1,x2]))∧Ex.Row w r b (o+3)
end
def stVal (x:Nat→Value):Value:=.agg #[x 0,x 1,x 2,x 3,x 4,x 5,x 6,x 7,x 8,x 9,x 10,x 11,x 12,x 13]
mutual
def St.In (w:World):St→Value→Prop
 | .mk k n e ck ca cb b l,v=>∃ e0 e1 e2 a0 a1 a2 b0 b1 b2 sb sl,v = .agg #[.int .i64 k,.int .i64 n,e0,e1,e2,.int .i64 ck,a0,a1,a2,b0,b1,b2,sb,sl] ∧
   e.In w (.agg #[e0,e1,e2])∧ca.In w (.agg #[a0,a1,a2])∧cb.In w (.agg #[b0,b1,b2]) ∧
   (∃ ad c,sb = .slice ad b.length c∧(b=[]∨∃ g o,ad=some ⟨g,o,none⟩∧St.Row w b g o)) ∧
   (∃ ad c,sl = .slice ad l.length c∧(l=[]∨∃ g o,ad=some ⟨g,o,none⟩∧St.Row w l g o))
def St.Row (w:World):List St→Nat→Nat→Prop
 | [],_,_=>True
 | s::r,g,o=>(∃ x:Nat→Value,(∀ j,j<14→w.cell? ⟨g,o+j,none⟩=some (x j))∧St.In w s (stVal x))∧St.Row w r g (o+14)
end
def St.Sl (w:World) (b:List St) (v:Value):Prop:=∃ ad c,v = .slice ad b.length c∧(b=[]∨∃ g o,ad=some ⟨g,o,none⟩∧St.Row w b g o)
theorem below_cell {w w':World} (hb:Below w.heap.size w w') {p:Addr} {v:Value} (h:w.cell? p=some v):w'.cell? p=some v :=
 (hb.cell (World.block_lt_of_cell? _ _ h)).trans h
mutual
theorem Ex.In.below {w w':World} (hb:Below w.heap.size w w'):∀ (e:Ex) {v:Value},e.In w v→e.In w' v
 | .mk k n a,v,h=>by
  unfold Ex.In at h ⊢
  obtain ⟨ad,c,hv,h⟩:=h
  refine ⟨ad,c,hv,?_⟩
  rcases h with h | ⟨b,o,h1,h2⟩
  ·exact .inl h
  ·exact .inr ⟨b,o,h1,Ex.Row.below hb a h2⟩
theorem Ex.Row.below {w w':World} (hb:Below w.heap.size w w'):∀ (a:List Ex) {b o:Nat},Ex.Row w a b o→Ex.Row w' a b o
 | [],_,_,_=>by unfold Ex.Row;trivial
 | e::r,b,o,h=>by
  unfold Ex.Row at h ⊢
  obtain ⟨⟨x0,x1,x2,h0,h1,h2,h3⟩,h4⟩:=h
  exact ⟨⟨x0,x1,x2,below_cell hb h0,below_cell hb h1,below_cell hb h2,Ex.In.below hb e h3⟩,Ex.Row.below hb r h4⟩
end
mutual
theorem St.In.below {w w':World} (hb:Below w.heap.size w w'):∀ (s:St) {v:Value},s.In w v→s.In w' v
 | .mk k n e ck ca cb b l,v,h=>by
  unfold St.In at h ⊢
  obtain ⟨e0,e1,e2,a0,a1,a2,b0,b1,b2,sb,sl,hv,h1,h2,h3,⟨ad,c,h4,h5⟩,⟨ad',c',h6,h7⟩⟩:=h
  refine ⟨e0,e1,e2,a0,a1,a2,b0,b1,b2,sb,sl,hv,h1.below hb,h2.below hb,h3.below hb,⟨ad,c,h4,?_⟩,⟨ad',c',h6,?_⟩⟩
  ·rcases h5 with h | ⟨g,o,h1,h2⟩
   ·exact .inl h
   ·exact .inr ⟨g,o,h1,St.Row.below hb b h2⟩
  ·rcases h7 with h | ⟨g,o,h1,h2⟩
   ·exact .inl h
   ·exact .inr ⟨g,o,h1,St.Row.below hb l h2⟩
theorem St.Row.below {w w':World} (hb:Below w.heap.size w w'):∀ (a:List St) {b o:Nat},St.Row w a b o→St.Row w' a b o
 | [],_,_,_=>by unfold St.Row;trivial
 | e::r,b,o,h=>by
  unfold St.Row at h ⊢
  obtain ⟨⟨x,h0,h3⟩,h4⟩:=h
  exact ⟨⟨x,fun j hj=>below_cell hb (h0 j hj),St.In.below hb e h3⟩,St.Row.below hb r h4⟩
end
theorem St.Sl.below {w w':World} (hb:Below w.heap.size w w') {b:List St} {v:Value} (h:St.Sl w b v):St.Sl w' b v:=by
 obtain ⟨ad,c,hv,h⟩:=h
 refine ⟨ad,c,hv,?_⟩
 rcases h with h | ⟨g,o,h1,h2⟩
 ·exact .inl h
 ·exact .inr ⟨g,o,h1,h2.below hb⟩
theorem Ex.Row.at {w:World}:∀ (a:List Ex) {b o:Nat},Ex.Row w a b o→∀ (j:Nat) (x:Ex),a[j]?=some x →
  ∃ x0 x1 x2,w.cell? ⟨b,o+j*3,none⟩=some x0∧w.cell? ⟨b,o+j*3+1,none⟩=some x1∧w.cell? ⟨b,o+j*3+2,none⟩=some x2∧Ex.In w x (.agg #[x0,x1,x2])
 | [],_,_,_,_,_,h=>by simp at h
 | e::r,b,o,h,0,x,hx=>by
  unfold Ex.Row at h
  simp at hx
  subst hx
  simpa using h.1
 | e::r,b,o,h,j+1,x,hx=>by
  unfold Ex.Row at h
  have:=Ex.Row.at r h.2 j x (by simpa using hx)
  have e0:o+3+j*3=o+(j+1)*3:=by omega
  rwa [e0] at this
theorem St.Row.at {w:World}:∀ (a:List St) {b o:Nat},St.Row w a b o→∀ (j:Nat) (s:St),a[j]?=some s →
  ∃ x:Nat→Value,(∀ i,i<14→w.cell? ⟨b,o+j*14+i,none⟩=some (x i))∧St.In w s (stVal x)
 | [],_,_,_,_,_,h=>by simp at h
 | e::r,b,o,h,0,x,hx=>by
  unfold St.Row at h
  simp at hx
  subst hx
  simpa using h.1
 | e::r,b,o,h,j+1,x,hx=>by
  unfold St.Row at h
  have:=St.Row.at r h.2 j x (by simpa using hx)
  have e0:o+14+j*14=o+(j+1)*14:=by omega
  rwa [e0] at this
theorem Ex.Row.shape {w:World} {a:List Ex} {b o:Nat} (h:Ex.Row w a b o) {j:Nat} (hj:j<a.length) :
  ∃ k n ad m c,w.cell? ⟨b,o+j*3,none⟩=some (.int .i64 k)∧w.cell? ⟨b,o+j*3+1,none⟩=some (.int .i64 n)∧w.cell? ⟨b,o+j*3+2,none⟩=some (.slice ad m c) ∧
   Ex.In w a[j] (.agg #[.int .i64 k,.int .i64 n,.slice ad m c]):=by
 obtain ⟨x0,x1,x2,c0,c1,c2,hin⟩:=Ex.Row.at a h j a[j] (by simp [hj])
 generalize a[j]=x at *
 obtain ⟨k,n,l⟩:=x
 have hin':=hin
 unfold Ex.In at hin'
 obtain ⟨ad,c,hv,-⟩:=hin'
 simp at hv
 obtain ⟨rfl,rfl,rfl⟩:=hv
 exact ⟨_,_,_,_,_,c0,c1,c2,hin⟩
theorem St.Row.shape {w:World} {a:List St} {b o:Nat} (h:St.Row w a b o) {j:Nat} (hj:j<a.length) :
  ∃ k n e ck ca cb y l,a[j]=St.mk k n e ck ca cb y l ∧
  ∃ ek en ead em ec,∃ ak an aad am ac,∃ bk bn bad bm bc,∃ yad yc lad lc,
   w.cell? ⟨b,o+j*14,none⟩=some (.int .i64 k)∧w.cell? ⟨b,o+j*14+1,none⟩=some (.int .i64 n) ∧
   w.cell? ⟨b,o+j*14+2,none⟩=some (.int .i64 ek)∧w.cell? ⟨b,o+j*14+3,none⟩=some (.int .i64 en)∧w.cell? ⟨b,o+j*14+4,none⟩=some (.slice ead em ec) ∧
   w.cell? ⟨b,o+j*14+5,none⟩=some (.int .i64 ck) ∧
   w.cell? ⟨b,o+j*14+6,none⟩=some (.int .i64 ak)∧w.cell? ⟨b,o+j*14+7,none⟩=some (.int .i64 an)∧w.cell? ⟨b,o+j*14+8,none⟩=some (.slice aad am ac) ∧
   w.cell? ⟨b,o+j*14+9,none⟩=some (.int .i64 bk)∧w.cell? ⟨b,o+j*14+10,none⟩=some (.int .i64 bn)∧w.cell? ⟨b,o+j*14+11,none⟩=some (.slice bad bm bc) ∧
   w.cell? ⟨b,o+j*14+12,none⟩=some (.slice yad y.length yc)∧w.cell? ⟨b,o+j*14+13,none⟩=some (.slice lad l.length lc) ∧
   e.In w (.agg #[.int .i64 ek,.int .i64 en,.slice ead em ec])∧ca.In w (.agg #[.int .i64 ak,.int .i64 an,.slice aad am ac])∧cb.In w (.agg #[.int .i64 bk,.int .i64 bn,.slice bad bm bc]) ∧
   St.Sl w y (.slice yad y.length yc)∧St.Sl w l (.slice lad l.length lc):=by
 obtain ⟨x,hx,hin⟩:=St.Row.at a h j a[j] (by simp [hj])
 generalize a[j]=s at *
 obtain ⟨k,n,e,ck,ca,cb,y,l⟩:=s
 unfold St.In at hin
 obtain ⟨e0,e1,e2,a0,a1,a2,b0,b1,b2,sb,sl,hv,h1,h2,h3,h4,h5⟩:=hin
 unfold stVal at hv
 simp only [Value.agg.injEq,Array.mk.injEq,List.cons.injEq,and_true] at hv
 obtain ⟨v0,v1,v2,v3,v4,v5,v6,v7,v8,v9,v10,v11,v12,v13⟩:=hv
 obtain ⟨ek,en,ea⟩:=e
 obtain ⟨ak,an,aa⟩:=ca
 obtain ⟨bk,bn,ba⟩:=cb
 have h1':=h1
 have h2':=h2
 have h3':=h3
 unfold Ex.In at h1' h2' h3'
 obtain ⟨ead,ec,hv1,-⟩:=h1'
 obtain ⟨aad,ac,hv2,-⟩:=h2'
 obtain ⟨bad,bc,hv3,-⟩:=h3'
 simp only [Value.agg.injEq,Array.mk.injEq,List.cons.injEq,and_true] at hv1 hv2 hv3
 obtain ⟨rfl,rfl,rfl⟩:=hv1
 obtain ⟨rfl,rfl,rfl⟩:=hv2
 obtain ⟨rfl,rfl,rfl⟩:=hv3
 obtain ⟨yad,yc,rfl,hy⟩:=h4
 obtain ⟨lad,lc,rfl,hl⟩:=h5
 refine ⟨k,n,_,ck,_,_,y,l,rfl,_,_,_,_,_,_,_,_,_,_,_,_,_,_,_,yad,yc,lad,lc,?_,?_,?_,?_,?_,?_,?_,?_,?_,?_,?_,?_,?_,?_,h1,h2,h3,⟨_,_,rfl,hy⟩,⟨_,_,rfl,hl⟩⟩
 ·rw [← v0];exact hx 0 (by omega)
 ·rw [← v1];exact hx 1 (by omega)
 ·rw [← v2];exact hx 2 (by omega)
 ·rw [← v3];exact hx 3 (by omega)
 ·rw [← v4];exact hx 4 (by omega)
 ·rw [← v5];exact hx 5 (by omega)
 ·rw [← v6];exact hx 6 (by omega)
 ·rw [← v7];exact hx 7 (by omega)
 ·rw [← v8];exact hx 8 (by omega)
 ·rw [← v9];exact hx 9 (by omega)
 ·rw [← v10];exact hx 10 (by omega)
 ·rw [← v11];exact hx 11 (by omega)
 ·rw [← v12];exact hx 12 (by omega)
 ·rw [← v13];exact hx 13 (by omega)
theorem ret_int {k:IntKind} {a b:Int} (h:a=b):Ending.returned (.int k a) = .returned (.int k b):=by rw [h]
theorem ret_bool {a b:Bool} (h:a=b):Ending.returned (.bool a) = .returned (.bool b):=by rw [h]
theorem drop_at {α:Type} {l:List α} {j:Nat} (h:j<l.length):l.drop j=l[j]::l.drop (j+1):=List.drop_eq_getElem_cons h
theorem nodesAll_at:∀ (a:List Ex) (j:Nat) (x:Ex),a[j]?=some x→x.nodes≤Ex.nodesAll a
 | [],_,_,h=>by simp at h
 | e::r,0,x,h=>by simp at h;subst h;unfold Ex.nodesAll;omega
 | e::r,j+1,x,h=>by have:=nodesAll_at r j x (by simpa using h);unfold Ex.nodesAll;omega
theorem bulkAll_at:∀ (a:List St) (j:Nat) (x:St),a[j]?=some x→x.bulk≤St.bulkAll a
 | [],_,_,h=>by simp at h
 | e::r,0,x,h=>by simp at h;subst h;unfold St.bulkAll;omega
 | e::r,j+1,x,h=>by have:=bulkAll_at r j x (by simpa using h);unfold St.bulkAll;omega
theorem Ex.nodes_pos (e:Ex):1≤e.nodes:=by cases e;unfold Ex.nodes;omega
theorem length_le_nodesAll:∀ a:List Ex,a.length≤Ex.nodesAll a
 | []=>by simp
 | e::r=>by have:=length_le_nodesAll r;have:=e.nodes_pos;unfold Ex.nodesAll;simp;omega
theorem St.bulk_pos (s:St):1≤s.bulk:=by cases s;unfold St.bulk;omega
theorem length_le_bulkAll:∀ a:List St,a.length≤St.bulkAll a
 | []=>by simp
 | e::r=>by have:=length_le_bulkAll r;have:=e.bulk_pos;unfold St.bulkAll;simp;omega
theorem cells3:Tryd.prog.cellsOf 3=1:=by kernel_rfl
theorem cells28:Tryd.prog.cellsOf 117=1:=by kernel_rfl
theorem cells22:Tryd.prog.cellsOf 63=1:=by kernel_rfl
theorem cells30:Tryd.prog.cellsOf 119=3:=by kernel_rfl
theorem cells32:Tryd.prog.cellsOf 121=7:=by kernel_rfl
theorem cells34:Tryd.prog.cellsOf 123=14:=by kernel_rfl
section
variable {H:Type} {enc:TypeId × Value→H} {w:World} {sp:Nat→Bool} {held:Bool}
theorem plain_addr {w:World} {a:Addr} {v:Value} (h:w.cell? a=some v):a=⟨a.block,a.off,none⟩:=by
 obtain ⟨b,o,s⟩:=a
 cases s with
 | none=>rfl
 | some x =>
  exfalso
  unfold World.cell? at h
  simp at h
  split at h <;> simp_all
theorem add_plain' (g o n:Nat):(⟨g,o,none⟩:Addr).add n=⟨g,o+n,none⟩:=by
 unfold Addr.add
 by_cases h:n=0
 ·subst h;rfl
 ·simp [h]
theorem cells_at {g o n:Nat} {cs:List Value} (h:w.cells? 0 ⟨g,o,none⟩ n=some cs):cs.length=n∧∀ i,i<n→w.cell? ⟨g,o+i,none⟩=cs[i]?:=by
 obtain ⟨-,h1,h2⟩:=World.cells?_some h
 refine ⟨h1,fun i hi=>?_⟩
 rw [← h2 i hi,add_plain']
def ExIh (enc:TypeId × Value→H) (w:World) (sp:Nat→Bool) (held:Bool) (n:Nat):Prop :=
 ∀ (cs:List Value) (x:DataW H × List MemPlace),DataW.trod enc Tryd.prog w 0 sp held n 119 cs=some x→∃ (e:Ex) (v0 v1 v2:Value),cs=[v0,v1,v2]∧e.In w (.agg #[v0,v1,v2])∧e.nodes≤Rows.uptoBulk x.1
theorem ex_row {n:Nat} (ih:ExIh enc w sp held n) (g:Nat):∀ (elems:List (DataW H × List MemPlace)) (o:Nat),
  (∀ i,i<elems.length→(w.cells? 0 ⟨g,o+i*3,none⟩ 3).bind (DataW.trod enc Tryd.prog w 0 sp held n 119)=elems[i]?) →
  ∃ es:List Ex,es.length=elems.length∧Ex.Row w es g o∧Ex.nodesAll es≤Rows.uptoBulkAll (elems.map (·.1))
 | [],o,_=>⟨[],rfl,by unfold Ex.Row;trivial,by unfold Ex.nodesAll;omega⟩
 | y::r,o,h=>by
  have h0:=h 0 (by simp)
  simp only [Nat.zero_mul,Nat.add_zero,List.getElem?_cons_zero] at h0
  obtain ⟨cs,hc,ht⟩:=Option.bind_eq_some_iff.1 h0
  obtain ⟨e,v0,v1,v2,rfl,hin,hn⟩:=ih cs y ht
  obtain ⟨-,hcell⟩:=cells_at hc
  have k0:=hcell 0 (by omega)
  have k1:=hcell 1 (by omega)
  have k2:=hcell 2 (by omega)
  obtain ⟨es,hl,hrow,hb⟩:=ex_row ih g r (o+3) (fun i hi=>by
   have:=h (i+1) (by simp;omega)
   rw [show o+(i+1)*3=o+3+i*3 by omega] at this
   simpa using this)
  refine ⟨e::es,by simp [hl],?_,?_⟩
  ·unfold Ex.Row
   exact ⟨⟨v0,v1,v2,by simpa using k0,by simpa using k1,by simpa using k2,hin⟩,hrow⟩
  ·unfold Ex.nodesAll
   simp only [List.map_cons,Rows.uptoBulkAll]
   omega
set_option maxRecDepth 20000 in
theorem ex_open:∀ n:Nat,ExIh enc w sp held n:=by
 intro n
 induction n using Nat.strongRecOn with
 | _ n IH =>
  intro cs x h
  obtain ⟨xs,n1,rfl,rfl,hl,hlen,hf⟩:=DataW.trod_struct Tryd.underlying119 h
  rw [cells30] at hl
  match cs,hl with
  | [c0,c1,c2],_ =>
   match xs,hlen with
   | [y0,y1,y2],_ =>
    have f0:DataW.trod enc Tryd.prog w 0 sp held n1 3 ((([c0,c1,c2]:List Value).drop 0).take (Tryd.prog.cellsOf 3))=some y0:=hf 0 _ rfl
    have f1:DataW.trod enc Tryd.prog w 0 sp held n1 3 ((([c0,c1,c2]:List Value).drop 1).take (Tryd.prog.cellsOf 3))=some y1:=hf 1 _ rfl
    have f2:DataW.trod enc Tryd.prog w 0 sp held n1 117 ((([c0,c1,c2]:List Value).drop 2).take (Tryd.prog.cellsOf 117))=some y2:=hf 2 _ rfl
    rw [cells3] at f0 f1
    rw [cells28] at f2
    obtain ⟨k,hk,ek,-⟩:=DataW.trod_int Tryd.underlying3 (show DataW.trod enc Tryd.prog w 0 sp held n1 3 [c0]=some y0 from f0)
    obtain ⟨m,hm,em,-⟩:=DataW.trod_int Tryd.underlying3 (show DataW.trod enc Tryd.prog w 0 sp held n1 3 [c1]=some y1 from f1)
    simp only [List.cons.injEq,and_true] at hk hm
    subst hk hm ek em
    rcases DataW.trod_slice Tryd.underlying117 (show DataW.trod enc Tryd.prog w 0 sp held n1 117 [c2]=some y2 from f2) with ⟨hs,rfl⟩ | ⟨a,len,cap,elems,rest,n2,rfl,hs,rfl,-,-,-,rfl,hel,-,-⟩
    ·simp only [List.cons.injEq,and_true] at hs
     subst hs
     refine ⟨.mk k m [],_,_,_,rfl,?_,?_⟩
     ·unfold Ex.In
      exact ⟨none,0,rfl,.inl rfl⟩
     ·simp [Ex.nodes,Ex.nodesAll,Rows.uptoBulk,Rows.uptoBulkAll]
    ·simp only [List.cons.injEq,and_true] at hs
     subst hs
     simp only [cells30] at hel
     cases elems with
     | nil =>
      refine ⟨.mk k m [],_,_,_,rfl,?_,?_⟩
      ·unfold Ex.In
       exact ⟨some a,cap,rfl,.inl rfl⟩
      ·simp [Ex.nodes,Ex.nodesAll,Rows.uptoBulk]
     | cons z r =>
      have hz:=hel 0 (by simp)
      obtain ⟨cs0,hc0,ht0⟩:=Option.bind_eq_some_iff.1 hz
      have hpl:=(World.cells?_some hc0).2.2 0 (by omega)
      obtain ⟨e0,v0,v1,v2,rfl,-,-⟩:=IH n2 (by omega) cs0 z (by simpa using ht0)
      have hpa:=plain_addr (w:=w) (a:=a) (v:=v0) (by simpa [Addr.add] using hpl)
      obtain ⟨es,hel',hrow,hb⟩:=ex_row (IH n2 (by omega)) a.block (z::r) a.off (fun i hi=>by
       have:=hel i hi
       rw [hpa,add_plain'] at this
       exact this)
      refine ⟨.mk k m es,_,_,_,rfl,?_,?_⟩
      ·unfold Ex.In
       refine ⟨some a,cap,by rw [hel'],.inr ⟨a.block,a.off,by rw [← hpa],hrow⟩⟩
      ·simp only [Ex.nodes,List.map_cons,List.map_nil,Rows.uptoBulk,Rows.uptoBulkAll] at hb ⊢
       omega
def StIh (enc:TypeId × Value→H) (w:World) (sp:Nat→Bool) (held:Bool) (n:Nat):Prop :=
 ∀ (cs:List Value) (x:DataW H × List MemPlace),DataW.trod enc Tryd.prog w 0 sp held n 63 cs=some x→∃ (a:List St) (v:Value),cs=[v]∧St.Sl w a v∧St.bulkAll a≤Rows.uptoBulk x.1
set_option maxRecDepth 20000 in
theorem st_one {n:Nat} (ih:∀ m,m<n→StIh enc w sp held m) (cs:List Value) (y:DataW H × List MemPlace) (h:DataW.trod enc Tryd.prog w 0 sp held n 123 cs=some y) :
  ∃ (s:St) (x:Nat→Value),cs=[x 0,x 1,x 2,x 3,x 4,x 5,x 6,x 7,x 8,x 9,x 10,x 11,x 12,x 13]∧s.In w (stVal x)∧s.bulk≤Rows.uptoBulk y.1:=by
 obtain ⟨xs,n1,rfl,rfl,hl,hlen,hf⟩:=DataW.trod_struct Tryd.underlying123 h
 rw [cells34] at hl
 match cs,hl with
 | [c0,c1,c2,c3,c4,c5,c6,c7,c8,c9,c10,c11,c12,c13],_ =>
  match xs,hlen with
  | [y0,y1,y2,y3,y4,y5],_ =>
   have f0:DataW.trod enc Tryd.prog w 0 sp held n1 3 ((([c0,c1,c2,c3,c4,c5,c6,c7,c8,c9,c10,c11,c12,c13]:List Value).drop 0).take (Tryd.prog.cellsOf 3))=some y0:=hf 0 _ rfl
   have f1:DataW.trod enc Tryd.prog w 0 sp held n1 3 ((([c0,c1,c2,c3,c4,c5,c6,c7,c8,c9,c10,c11,c12,c13]:List Value).drop 1).take (Tryd.prog.cellsOf 3))=some y1:=hf 1 _ rfl
   have f2:DataW.trod enc Tryd.prog w 0 sp held n1 119 ((([c0,c1,c2,c3,c4,c5,c6,c7,c8,c9,c10,c11,c12,c13]:List Value).drop 2).take (Tryd.prog.cellsOf 119))=some y2:=hf 2 _ rfl
   have f3:DataW.trod enc Tryd.prog w 0 sp held n1 121 ((([c0,c1,c2,c3,c4,c5,c6,c7,c8,c9,c10,c11,c12,c13]:List Value).drop 5).take (Tryd.prog.cellsOf 121))=some y3:=hf 3 _ rfl
   have f4:DataW.trod enc Tryd.prog w 0 sp held n1 63 ((([c0,c1,c2,c3,c4,c5,c6,c7,c8,c9,c10,c11,c12,c13]:List Value).drop 12).take (Tryd.prog.cellsOf 63))=some y4:=hf 4 _ rfl
   have f5:DataW.trod enc Tryd.prog w 0 sp held n1 63 ((([c0,c1,c2,c3,c4,c5,c6,c7,c8,c9,c10,c11,c12,c13]:List Value).drop 13).take (Tryd.prog.cellsOf 63))=some y5:=hf 5 _ rfl
   rw [cells3] at f0 f1
   rw [cells30] at f2
   rw [cells32] at f3
   rw [cells22] at f4 f5
   obtain ⟨k,hk,ek,-⟩:=DataW.trod_int Tryd.underlying3 (show DataW.trod enc Tryd.prog w 0 sp held n1 3 [c0]=some y0 from f0)
   obtain ⟨m,hm,em,-⟩:=DataW.trod_int Tryd.underlying3 (show DataW.trod enc Tryd.prog w 0 sp held n1 3 [c1]=some y1 from f1)
   simp only [List.cons.injEq,and_true] at hk hm
   subst hk hm ek em
   obtain ⟨e,e0,e1,e2,he,hein,hen⟩:=ex_open n1 _ _ (show DataW.trod enc Tryd.prog w 0 sp held n1 119 [c2,c3,c4]=some y2 from f2)
   simp only [List.cons.injEq,and_true] at he
   obtain ⟨rfl,rfl,rfl⟩:=he
   obtain ⟨zs,n2,rfl,rfl,-,hzlen,hzf⟩:=DataW.trod_struct Tryd.underlying121 (show DataW.trod enc Tryd.prog w 0 sp held n1 121 [c5,c6,c7,c8,c9,c10,c11]=some y3 from f3)
   match zs,hzlen with
   | [z0,z1,z2],_ =>
    have g0:DataW.trod enc Tryd.prog w 0 sp held n2 3 ((([c5,c6,c7,c8,c9,c10,c11]:List Value).drop 0).take (Tryd.prog.cellsOf 3))=some z0:=hzf 0 _ rfl
    have g1:DataW.trod enc Tryd.prog w 0 sp held n2 119 ((([c5,c6,c7,c8,c9,c10,c11]:List Value).drop 1).take (Tryd.prog.cellsOf 119))=some z1:=hzf 1 _ rfl
    have g2:DataW.trod enc Tryd.prog w 0 sp held n2 119 ((([c5,c6,c7,c8,c9,c10,c11]:List Value).drop 4).take (Tryd.prog.cellsOf 119))=some z2:=hzf 2 _ rfl
    rw [cells3] at g0
    rw [cells30] at g1 g2
    obtain ⟨ck,hck,eck,-⟩:=DataW.trod_int Tryd.underlying3 (show DataW.trod enc Tryd.prog w 0 sp held n2 3 [c5]=some z0 from g0)
    simp only [List.cons.injEq,and_true] at hck
    subst hck eck
    obtain ⟨ca,a0,a1,a2,ha,hain,han⟩:=ex_open n2 _ _ (show DataW.trod enc Tryd.prog w 0 sp held n2 119 [c6,c7,c8]=some z1 from g1)
    obtain ⟨cb,b0,b1,b2,hb,hbin,hbn⟩:=ex_open n2 _ _ (show DataW.trod enc Tryd.prog w 0 sp held n2 119 [c9,c10,c11]=some z2 from g2)
    simp only [List.cons.injEq,and_true] at ha hb
    obtain ⟨rfl,rfl,rfl⟩:=ha
    obtain ⟨rfl,rfl,rfl⟩:=hb
    obtain ⟨b,vb,hvb,hsb,hbb⟩:=ih _ (Nat.lt_succ_self _) _ _ (show DataW.trod enc Tryd.prog w 0 sp held (n2+1) 63 [c12]=some y4 from f4)
    obtain ⟨l,vl,hvl,hsl,hbl⟩:=ih _ (Nat.lt_succ_self _) _ _ (show DataW.trod enc Tryd.prog w 0 sp held (n2+1) 63 [c13]=some y5 from f5)
    simp only [List.cons.injEq,and_true] at hvb hvl
    subst hvb hvl
    refine ⟨.mk k m e ck ca cb b l,fun j=>([.int .i64 k,.int .i64 m,c2,c3,c4,.int .i64 ck,c6,c7,c8,c9,c10,c11,c12,c13]:List Value).getD j undef,rfl,?_,?_⟩
    ·unfold St.In
     exact ⟨c2,c3,c4,c6,c7,c8,c9,c10,c11,c12,c13,rfl,hein,hain,hbin,hsb,hsl⟩
    ·simp only [St.bulk,List.map_cons,List.map_nil,Rows.uptoBulk,Rows.uptoBulkAll]
     omega
theorem st_row {n:Nat} (ih:∀ m,m<n→StIh enc w sp held m) (g:Nat):∀ (elems:List (DataW H × List MemPlace)) (o:Nat),
  (∀ i,i<elems.length→(w.cells? 0 ⟨g,o+i*14,none⟩ 14).bind (DataW.trod enc Tryd.prog w 0 sp held n 123)=elems[i]?) →
  ∃ es:List St,es.length=elems.length∧St.Row w es g o∧St.bulkAll es≤Rows.uptoBulkAll (elems.map (·.1))
 | [],o,_=>⟨[],rfl,by unfold St.Row;trivial,by unfold St.bulkAll;omega⟩
 | y::r,o,h=>by
  have h0:=h 0 (by simp)
  simp only [Nat.zero_mul,Nat.add_zero,List.getElem?_cons_zero] at h0
  obtain ⟨cs,hc,ht⟩:=Option.bind_eq_some_iff.1 h0
  obtain ⟨s,x,rfl,hin,hn⟩:=st_one ih cs y ht
  obtain ⟨-,hcell⟩:=cells_at hc
  obtain ⟨es,hl,hrow,hb⟩:=st_row ih g r (o+14) (fun i hi=>by
   have:=h (i+1) (by simp;omega)
   rw [show o+(i+1)*14=o+14+i*14 by omega] at this
   simpa using this)
  refine ⟨s::es,by simp [hl],?_,?_⟩
  ·unfold St.Row
   refine ⟨⟨x,fun j hj=>?_,hin⟩,hrow⟩
   rw [hcell j hj]
   match j,hj with
   | 0,_ | 1,_ | 2,_ | 3,_ | 4,_ | 5,_ | 6,_ | 7,_ | 8,_ | 9,_ | 10,_ | 11,_ | 12,_ | 13,_=>rfl
  ·unfold St.bulkAll
   simp only [List.map_cons,Rows.uptoBulkAll]
   omega
theorem st_open:∀ n:Nat,StIh enc w sp held n:=by
 intro n
 induction n using Nat.strongRecOn with
 | _ n IH =>
  intro cs x h
  rcases DataW.trod_slice Tryd.underlying63 h with ⟨rfl,rfl⟩ | ⟨a,len,cap,elems,rest,n2,rfl,rfl,rfl,-,-,-,rfl,hel,-,-⟩
  ·exact ⟨[],_,rfl,⟨none,0,rfl,.inl rfl⟩,by simp [St.bulkAll]⟩
  ·simp only [cells34] at hel
   cases elems with
   | nil=>exact ⟨[],_,rfl,⟨some a,cap,rfl,.inl rfl⟩,by simp [St.bulkAll]⟩
   | cons z r =>
    have hz:=hel 0 (by simp)
    obtain ⟨cs0,hc0,ht0⟩:=Option.bind_eq_some_iff.1 hz
    have hpl:=(World.cells?_some hc0).2.2 0 (by omega)
    obtain ⟨s0,x0,rfl,-,-⟩:=st_one (n:=n2) (fun m hm=>IH m (by omega)) cs0 z (by simpa using ht0)
    have hpa:=plain_addr (w:=w) (a:=a) (v:=x0 0) (by simpa [Addr.add] using hpl)
    obtain ⟨es,hel',hrow,hb⟩:=st_row (n:=n2) (fun m hm=>IH m (by omega)) a.block (z::r) a.off (fun i hi=>by
     have:=hel i hi
     rw [hpa,add_plain'] at this
     exact this)
    refine ⟨es,_,rfl,⟨some a,cap,by rw [hel'],.inr ⟨a.block,a.off,by rw [← hpa],hrow⟩⟩,?_⟩
    simp only [List.map_cons,Rows.uptoBulk,Rows.uptoBulkAll] at hb ⊢
    omega
theorem St.Sl.of_trod {v:Value} {d:DataW H} {ps:List MemPlace} (h:DataW.Trod enc Tryd.prog w 0 sp held 63 v d ps) (hv:v.cells.toList=[v]):∃ a,St.Sl w a v∧St.bulkAll a≤Rows.uptoBulk d:=by
 obtain ⟨n,hn⟩:=h
 obtain ⟨a,v',h1,h2,h3⟩:=st_open n _ _ hn
 rw [hv] at h1
 simp only [List.cons.injEq,and_true] at h1
 subst h1
 exact ⟨a,h2,h3⟩
end
end Go.Proofs.YtnkgbkkakokciacDoor.B
namespace Go.Proofs.YtnkgbkkakokciacDoor
open Go.ChangeShapes Go.WideShapes Go.ChangeAt Go.RowKit
structure In where
 op:Int
 a:Int
 b:Int
def In.val (x:In):Value:=.agg #[.int .i64 x.op,.int .i64 x.a,.int .i64 x.b]
def in0:In:=⟨0,0,0⟩
theorem below_cell {w w':World} (hb:Below w.heap.size w w') {p:Addr} {v:Value} (h:w.cell? p=some v):w'.cell? p=some v :=
 (hb.cell (World.block_lt_of_cell? w p h)).trans h
theorem below_seq {a b c:World} (h:Below a.heap.size a b) (h':Below b.heap.size b c):Below a.heap.size a c:=h.trans (h'.mono h.size)
theorem below_new (w:World) (o:Obj):Below w.heap.size w (w.alloc o):=(Below.refl _ w).alloc (Nat.le_refl _) o
def InSl (w:World) (l:List In) (v:Value):Prop:=∃ ad c,v = .slice ad l.length c∧(l=[]∨∃ b o,ad=some ⟨b,o,none⟩∧∀ j,j<l.length→w.cell? ⟨b,o+j*3,none⟩=some (.int .i64 (l.getD j in0).op)∧w.cell? ⟨b,o+j*3+1,none⟩=some (.int .i64 (l.getD j in0).a)∧w.cell? ⟨b,o+j*3+2,none⟩=some (.int .i64 (l.getD j in0).b))
theorem InSl.below {w w':World} {l:List In} {v:Value} (h:InSl w l v) (hb:Below w.heap.size w w'):InSl w' l v:=by
 obtain ⟨ad,c,h1,h2⟩:=h
 refine ⟨ad,c,h1,?_⟩
 rcases h2 with h2 | ⟨b,o,h2,h3⟩
 ·exact .inl h2
 ·exact .inr ⟨b,o,h2,fun j hj=>⟨below_cell hb (h3 j hj).1,below_cell hb (h3 j hj).2.1,below_cell hb (h3 j hj).2.2⟩⟩
def lowA (m:Nat):Int:=if m=18 then 1 else 0
def highA (m:Nat):Int:=[0,999999999,7,7,0,0,0,0,0,3,3,2000,2000,7,7,7,3,3,1000].getD m 0
def highB (m:Nat):Int:=if m=13 then 1000 else if m=14 then 2000 else 0
def takesOf (m:Nat):Int:=[0,0,0,1,2,2,2,2,2,0,1,0,1,0,0,0,0,0,0].getD m 0
def putsOf (m:Nat):Int:=[0,1,1,0,1,1,1,1,1,1,0,0,0,0,0,0,0,0,0].getD m 0
def tickOf (m:Nat):Int:=[0,1,1,1,1,1,3,1,1,2,2,2,1,1,1,1,1,1,0].getD m 0
def KindsIn (w:World):Prop:=∀ m:Nat,1≤m→m≤18→w.cell? ⟨1,m*6,none⟩=some (.int .i64 (lowA m))∧w.cell? ⟨1,m*6+1,none⟩=some (.int .i64 (highA m))∧w.cell? ⟨1,m*6+2,none⟩=some (.int .i64 (highB m))∧w.cell? ⟨1,m*6+3,none⟩=some (.int .i64 (takesOf m))∧w.cell? ⟨1,m*6+4,none⟩=some (.int .i64 (putsOf m))∧w.cell? ⟨1,m*6+5,none⟩=some (.int .i64 (tickOf m))
theorem KindsIn.below {w w':World} (h:KindsIn w) (hb:Below w.heap.size w w'):KindsIn w':=fun m h1 h2 =>
 ⟨below_cell hb (h m h1 h2).1,below_cell hb (h m h1 h2).2.1,below_cell hb (h m h1 h2).2.2.1,below_cell hb (h m h1 h2).2.2.2.1,below_cell hb (h m h1 h2).2.2.2.2.1,below_cell hb (h m h1 h2).2.2.2.2.2⟩
def formErr (x:In):Int:=if x.op<1∨18<x.op then 6 else if x.a<lowA x.op.toNat∨highA x.op.toNat<x.a∨x.b<0∨highB x.op.toNat<x.b then 3 else 0
set_option maxRecDepth 20000 in
set_option maxHeartbeats 4000000 in
theorem isIns_no (w:World) (op a b:Int) (h:op<1∨18<op):Calls Tryd.prog 58 #[.agg #[.int .i64 op,.int .i64 a,.int .i64 b]] w fun r w'=>r = .returned (.bool false)∧Below w.heap.size w w':=by
 rcases h with h | h
 ·go_enter Tryd.func58,Tryd.ntmps58
  go_wp2_with fail
  go_ret
  exact ⟨rfl,below_new _ _⟩
 ·have h1:1≤op:=by omega
  have h2:¬ op≤18:=by omega
  have e1:decide (1≤op)=true:=by simpa using h1
  have e2:decide (op≤18)=false:=by simpa using h
  go_enter Tryd.func58,Tryd.ntmps58
  go_wp2_with fail
  go_ret
  exact ⟨rfl,below_new _ _⟩
set_option maxRecDepth 20000 in
set_option maxHeartbeats 4000000 in
theorem isIns_yes (w:World) (op a b:Int) (h1:1≤op) (h2:op≤18):Calls Tryd.prog 58 #[.agg #[.int .i64 op,.int .i64 a,.int .i64 b]] w fun r w'=>r = .returned (.bool true)∧Below w.heap.size w w':=by
 have e1:decide (1≤op)=true:=by simpa using h1
 have e2:decide (op≤18)=true:=by simpa using h2
 go_enter Tryd.func58,Tryd.ntmps58
 go_wp2_with fail
 go_ret
 exact ⟨rfl,below_new _ _⟩
def opens (l:List In) (os:List Nat) (op a:Int):Option Nat:=os.find? fun o=>decide ((l.getD o in0).op=op)&&decide ((l.getD o in0).a=a)
def beginOf:Option Nat→Int
 | some o=>(o:Int)+1
 | none=>0
theorem opens_yes {l:List In} {z:Nat} {r:List Nat} {op a:Int} (h:(l.getD z in0).op=op∧(l.getD z in0).a=a):opens l (z::r) op a=some z:=by
 unfold opens
 rw [List.find?_cons_of_pos (by simpa using h)]
theorem opens_no {l:List In} {z:Nat} {r:List Nat} {op a:Int} (h:¬ ((l.getD z in0).op=op∧(l.getD z in0).a=a)):opens l (z::r) op a=opens l r op a:=by
 unfold opens
 rw [List.find?_cons_of_neg (by simpa using h)]
structure RgAt (w:World) (rb:Nat) (l:List In) (os:List Nat) (iv ov nv:Value):Prop where
 blk:w.heap[rb]?=some (.cells #[iv,ov,nv] 129 (0,0))
 img:InSl w l iv
 opn:∃ ad c,ov = .slice ad os.length c∧(os=[]∨∃ b o,ad=some ⟨b,o,none⟩∧∀ j,j<os.length→w.cell? ⟨b,o+j,none⟩=some (.int .i64 ((os.getD j 0:Nat)+1)))
 low:∀ o ∈ os,o<l.length
theorem cells_of {w:World} {g:Nat} {l:List Value} {T:TypeId} (h:w.heap[g]?=some (.cells l.toArray T (0,0))):(∀ j u,l[j]?=some u→w.cell? ⟨g,j,none⟩=some u)∧(∀ j,w.frozen? ⟨g,j,none⟩=false)∧g<w.heap.size:=by
 refine ⟨fun j u hj=>?_,fun j=>?_,(Array.getElem?_eq_some_iff.1 h).1⟩
 ·unfold World.cell?;rw [h];simpa using hj
 ·unfold World.frozen?;rw [h];simp
set_option maxRecDepth 20000 in
set_option maxHeartbeats 4000000 in
theorem innermost_any (w:World) (rb:Nat) (l:List In) (os:List Nat) (iv ov nv:Value) (h:RgAt w rb l os iv ov nv) (ho:os.length≤4194304) :
  Calls Tryd.prog 101 #[.pointer (some ⟨rb,0,none⟩)] w fun r w'=>r = .returned (.int .i64 (beginOf os.getLast?))∧Below w.heap.size w w':=by
 obtain ⟨ad,c,rfl,hrow⟩:=h.opn
 obtain ⟨cs,fs,lt⟩:=cells_of (l:=[_,_,_]) h.blk
 have c1:=cs 1 _ rfl
 clear cs fs
 by_cases h0:os=[]
 ·subst h0
  clear hrow
  go_enter Tryd.func101,Tryd.ntmps101
  go_wp2_with fail
  go_ret
  exact ⟨rfl,Below.refl _ _⟩
 ·rcases hrow with h1 | ⟨b,o,rfl,hrow⟩
  ·exact absurd h1 h0
  have hpos:0<os.length:=List.length_pos_iff.2 h0
  have hlast:os.getLast?=some (os.getD (os.length - 1) 0):=by
   rw [List.getLast?_eq_getElem?,List.getD_eq_getElem?_getD,List.getElem?_eq_getElem (by omega)]
   rfl
  have k:=hrow (os.length - 1) (by omega)
  rw [hlast]
  show Calls _ _ _ _ fun r w'=>r = .returned (.int .i64 ((os.getD (os.length - 1) 0:Nat)+1))∧_
  have hne:¬ ((os.length:Int)=0):=by omega
  have hnb:((os.length:Int) == 0)=false:=by simpa using hne
  generalize ((os.getD (os.length - 1) 0:Nat):Int)+1=z at *
  clear hrow hlast
  generalize hn:os.length=n at *
  obtain ⟨n',rfl⟩:∃ n',n=n'+1:=⟨n - 1,by omega⟩
  simp only [Nat.add_sub_cancel] at k
  go_enter Tryd.func101,Tryd.ntmps101
  go_wp2_with fail
  go_region
  go_wp2_with fail
  go_ret
  exact ⟨rfl,(Below.refl _ _).drew⟩
set_option maxRecDepth 20000 in
set_option maxHeartbeats 4000000 in
theorem begins_any (w:World) (rb:Nat) (l:List In) (os:List Nat) (iv ov nv:Value) (op a:Int) (h:RgAt w rb l os iv ov nv) (hl:l.length≤4194304) (ho:os.length≤4194304) :
  Calls Tryd.prog 102 #[.pointer (some ⟨rb,0,none⟩),.int .i64 op,.int .i64 a] w fun r w'=>r = .returned (.int .i64 (beginOf (opens l os op a)))∧Below w.heap.size w w':=by
 have HR:Hid (RgAt w rb l os iv ov nv):=h
 obtain ⟨ad,c,rfl,hrow⟩:=h.opn
 obtain ⟨iad,ic,rfl,himg⟩:=h.img
 obtain ⟨cs,fs,lt⟩:=cells_of (l:=[_,_,_]) h.blk
 have c0:=cs 0 _ rfl
 have c1:=cs 1 _ rfl
 have HI:Hid (_∧_):=⟨hrow,himg⟩
 have HC:Hid (_∧_):=⟨c0,c1⟩
 clear cs fs hrow himg h c0
 obtain ⟨res,hres⟩:∃ res,beginOf (opens l os op a)=res:=⟨_,rfl⟩
 rw [hres]
 have HS:Hid (beginOf (opens l os op a)=res):=hres
 clear hres
 go_enter Tryd.func102,Tryd.ntmps102
 go_wp2_with fail
 go_loopw [8,9,15] (fun _ _ i wr=>∃ j:Nat,j≤os.length∧i = .int .i64 j∧opens l (os.drop j) op a=opens l os op a∧Below w.heap.size w wr) (fun _ _ i _=>os.length - (intOf i).toNat)
 case atStart=>exact ⟨0,Nat.zero_le _,rfl,rfl,Below.refl _ _⟩
 case round =>
  obtain ⟨j,hj,rfl,hop,hb⟩:=hrel
  by_cases hlt:j<os.length
  ·rcases HI.out.1 with h | ⟨b,o,had,hrow⟩
   ·rw [h] at hlt;simp at hlt
   subst had
   have hmem:os.getD j 0 ∈ os:=by rw [List.getD_eq_getElem?_getD,List.getElem?_eq_getElem hlt];exact List.getElem_mem hlt
   have hlow:=HR.out.low _ hmem
   rcases HI.out.2 with h | ⟨b',o',had',himg⟩
   ·rw [h] at hlow;simp at hlow
   subst had'
   have k:=below_cell hb (hrow j hlt)
   have q0:=below_cell hb (himg _ hlow).1
   have q1:=below_cell hb (himg _ hlow).2.1
   have q2:=below_cell hb (himg _ hlow).2.2
   have c0:=below_cell hb HC.out.1
   have hdrop:os.drop j=os.getD j 0::os.drop (j+1):=by
    rw [List.getD_eq_getElem?_getD,List.getElem?_eq_getElem hlt]
    exact List.drop_eq_getElem_cons hlt
   rw [hdrop] at hop
   generalize os.getD j 0=z at *
   have HO:Hid (opens l (z::os.drop (j+1)) op a=opens l os op a∧Below w.heap.size w wr):=⟨hop,hb⟩
   clear hop hb hrow himg hdrop hmem
   have HY:Hid (((l.getD z in0).op=op∧(l.getD z in0).a=a→res=(z:Int)+1)∧(¬ ((l.getD z in0).op=op∧(l.getD z in0).a=a)→opens l (os.drop (j+1)) op a=opens l os op a)):=⟨fun h=>by rw [← HS.out,← HO.out.1,opens_yes h];rfl,fun h=>by rw [← HO.out.1,opens_no h]⟩
   generalize l.getD z in0=y at *
   obtain ⟨yo,ya,yb⟩:=y
   dsimp only at q0 q1 q2
   by_cases e1:yo=op
   ·subst e1
    by_cases e2:ya=a
    ·subst e2
     have e:=HY.out.1 ⟨rfl,rfl⟩
     subst e
     go_wp2_with fail
     go_ret
     exact ⟨rfl,HO.out.2.alloc HO.out.2.size _⟩
    ·have f2:(ya == a)=false:=by simpa using e2
     go_wp2_with fail
     go_roundw
     case rel=>exact ⟨j+1,by omega,by go_num,HY.out.2 (fun h=>e2 h.2),HO.out.2.alloc HO.out.2.size _⟩
     case measure=>simp [intOf];omega
   ·have f1:(yo == op)=false:=by simpa using e1
    go_wp2_with fail
    go_roundw
    case rel=>exact ⟨j+1,by omega,by go_num,HY.out.2 (fun h=>e1 h.1),HO.out.2.alloc HO.out.2.size _⟩
    case measure=>simp [intOf];omega
  ·have hje:j=os.length:=by omega
   subst hje
   have e:res=0:=by rw [← HS.out,← hop,List.drop_length];rfl
   subst e
   go_wp2_with fail
   go_ret
   exact ⟨rfl,hb⟩
set_option maxRecDepth 20000 in
set_option maxHeartbeats 4000000 in
theorem ofRegion_any (w:World) (op:Int):Calls Tryd.prog 103 #[.int .i64 op] w fun r w'=>r = .returned (.int .i64 (if op=13 then 9 else 10))∧w'=w:=by
 by_cases h:op=13
 ·subst h
  go_enter Tryd.func103,Tryd.ntmps103
  go_wp2_with fail
  go_ret
  exact ⟨rfl,rfl⟩
 ·rw [if_neg h]
  have hb:(op == 13)=false:=by simpa using h
  go_enter Tryd.func103,Tryd.ntmps103
  go_wp2_with fail
  go_ret
  exact ⟨rfl,rfl⟩
def PosSl (w:World) (os:List Nat) (v:Value):Prop:=∃ ad c,v = .slice ad os.length c∧(os=[]∨∃ b o,ad=some ⟨b,o,none⟩∧∀ j,j<os.length→w.cell? ⟨b,o+j,none⟩=some (.int .i64 ((os.getD j 0:Nat)+1)))
set_option maxRecDepth 20000 in
set_option maxHeartbeats 4000000 in
theorem index_any (w:World) (os:List Nat) (v:Value) (at_:Nat) (h:PosSl w os v) (ho:os.length≤4194304) :
  Calls Tryd.prog 133 #[v,.int .i64 ((at_:Int)+1)] w fun r w'=>(∃ z:Int,r = .returned (.int .i64 z)∧(at_ ∈ os→0≤z)∧(at_ ∉ os→z<0))∧Below w.heap.size w w':=by
 obtain ⟨ad,c,rfl,hrow⟩:=h
 have HI:Hid _:=hrow
 clear hrow
 go_enter Tryd.func133,Tryd.ntmps133
 go_wp2_with fail
 go_loopw [5,8] (fun _ i wr=>∃ j:Nat,j≤os.length∧i = .int .i64 j∧at_ ∉ os.take j∧Below w.heap.size w wr) (fun _ i _=>os.length - (intOf i).toNat)
 case atStart=>exact ⟨0,Nat.zero_le _,rfl,by simp,Below.refl _ _⟩
 case round =>
  obtain ⟨j,hj,rfl,hno,hb⟩:=hrel
  by_cases hlt:j<os.length
  ·rcases HI.out with h | ⟨b,o,had,hrow⟩
   ·rw [h] at hlt;simp at hlt
   subst had
   have k:=below_cell hb (hrow j hlt)
   have hg:os.getD j 0=os[j]:=by rw [List.getD_eq_getElem?_getD,List.getElem?_eq_getElem hlt];rfl
   have htake:os.take (j+1)=os.take j++[os.getD j 0]:=by rw [hg];exact List.take_succ_eq_append_getElem hlt
   have hmem:os.getD j 0 ∈ os:=by rw [hg];exact List.getElem_mem hlt
   have HT:Hid ((os.getD j 0 ∈ os∧os.take (j+1)=os.take j++[os.getD j 0])∧at_ ∉ os.take j∧Below w.heap.size w wr):=⟨⟨hmem,htake⟩,hno,hb⟩
   clear hrow hg htake hmem hno hb
   generalize os.getD j 0=z at *
   by_cases e:at_=z
   ·subst e
    have f:(((at_:Int)+1) == ((at_:Int)+1))=true:=by simp
    go_wp2_with fail
    go_ret
    exact ⟨⟨j,rfl,fun _=>by omega,fun h=>absurd HT.out.1.1 h⟩,HT.out.2.2⟩
   ·have e':¬ ((at_:Int)+1=(z:Int)+1):=by omega
    have e'':¬ ((at_:Int)=(z:Int)):=by omega
    have f:(((at_:Int)+1) == ((z:Int)+1))=false:=by simpa using e''
    go_wp2_with fail
    go_roundw
    case rel=>exact ⟨j+1,by omega,by go_num,by rw [HT.out.1.2];simp [e,HT.out.2.1],HT.out.2.2⟩
    case measure=>simp [intOf];omega
  ·have hje:j=os.length:=by omega
   subst hje
   rw [List.take_length] at hno
   go_wp2_with fail
   go_ret
   exact ⟨⟨-1,rfl,fun h=>absurd h hno,fun _=>by omega⟩,hb⟩
set_option maxRecDepth 20000 in
set_option maxHeartbeats 4000000 in
theorem contains_any (w:World) (os:List Nat) (v:Value) (at_:Nat) (h:PosSl w os v) (ho:os.length≤4194304) :
  Calls Tryd.prog 104 #[v,.int .i64 ((at_:Int)+1)] w fun r w'=>r = .returned (.bool (decide (at_ ∈ os)))∧Below w.heap.size w w':=by
 have HI:Hid (PosSl w os v):=h
 obtain ⟨ad,c,rfl,-⟩:=h
 obtain ⟨res,hres⟩:∃ res,decide (at_ ∈ os)=res:=⟨_,rfl⟩
 rw [hres]
 have HS:Hid (decide (at_ ∈ os)=res):=hres
 clear hres
 go_enter Tryd.func104,Tryd.ntmps104
 go_wp2_with (go_at_call 133;refine (index_any w os _ at_ HI.out ho).mono ?_;rintro r w1 ⟨⟨z,rfl,h1,h2⟩,hb⟩;have H1:Hid ((at_ ∈ os→0≤z)∧(at_ ∉ os→z<0)∧Below w.heap.size w w1):=⟨h1,h2,hb⟩;clear h1 h2 hb)
 go_ret
 refine ⟨?_,H1.out.2.2⟩
 have e:decide (0≤z)=res:=by
  rw [← HS.out]
  by_cases hm:at_ ∈ os
  ·have:=H1.out.1 hm;simp [hm,this]
  ·have:=H1.out.2.1 hm;simp [hm];omega
 exact congrArg (fun b=>Ending.returned (Value.bool b)) e
def IntSl (w:World) (vs:List Int) (v:Value):Prop:=∃ ad c,v = .slice ad vs.length c∧(vs=[]∨∃ b o,ad=some ⟨b,o,none⟩∧∀ j,j<vs.length→w.cell? ⟨b,o+j,none⟩=some (.int .i64 (vs.getD j 0)))
def waysOf (k:Nat) (x:In):List Int:=if x.op=11 then [x.a] else if x.op=12 then [x.a,(k:Int)+1] else if x.op=14 then [x.b,(k:Int)+1] else [(k:Int)+1]
theorem one_sl (w:World) (z:Int):IntSl (w.alloc (.cells #[.int .i64 z] 3)) [z] (.slice (some ⟨w.heap.size,0,none⟩) 1 1):=by
 refine ⟨_,_,rfl,.inr ⟨w.heap.size,0,rfl,fun j hj=>?_⟩⟩
 have h:=(cells_of (l:=[.int .i64 z]) (heap_alloc_new w (.cells #[.int .i64 z] 3))).1
 have hj':j<1:=hj
 have:j=0:=by omega
 subst this
 exact h 0 _ rfl
theorem two_sl (w:World) (z y:Int):IntSl (w.alloc (.cells #[.int .i64 z,.int .i64 y] 3)) [z,y] (.slice (some ⟨w.heap.size,0,none⟩) 2 2):=by
 refine ⟨_,_,rfl,.inr ⟨w.heap.size,0,rfl,fun j hj=>?_⟩⟩
 have h:=(cells_of (l:=[.int .i64 z,.int .i64 y]) (heap_alloc_new w (.cells #[.int .i64 z,.int .i64 y] 3))).1
 have hj':j<2:=hj
 have:j=0∨j=1:=by omega
 rcases this with rfl | rfl
 ·exact h 0 _ rfl
 ·exact h 1 _ rfl
theorem one_sl' (w:World) (o:Obj) (z:Int):IntSl ((w.alloc o).alloc (.cells #[.int .i64 z] 3)) [z] (.slice (some ⟨w.heap.size+1,0,none⟩) 1 1):=by
 have:=one_sl (w.alloc o) z
 rwa [show (w.alloc o).heap.size=w.heap.size+1 by simp] at this
theorem two_sl' (w:World) (o:Obj) (z y:Int):IntSl ((w.alloc o).alloc (.cells #[.int .i64 z,.int .i64 y] 3)) [z,y] (.slice (some ⟨w.heap.size+1,0,none⟩) 2 2):=by
 have:=two_sl (w.alloc o) z y
 rwa [show (w.alloc o).heap.size=w.heap.size+1 by simp] at this
set_option maxRecDepth 20000 in
set_option maxHeartbeats 4000000 in
theorem ways_any (w:World) (k:Nat) (x:In) (hk:k≤4194304):Calls Tryd.prog 83 #[.int .i64 k,x.val] w fun r w'=>(∃ v,r = .returned v∧IntSl w' (waysOf k x) v)∧Below w.heap.size w w':=by
 obtain ⟨op,a,b⟩:=x
 show Calls Tryd.prog 83 #[.int .i64 k,.agg #[.int .i64 op,.int .i64 a,.int .i64 b]] w _
 unfold waysOf
 dsimp only
 by_cases h1:op=11
 ·subst h1
  rw [if_pos rfl]
  go_enter Tryd.func83,Tryd.ntmps83
  go_wp2_with fail
  go_ret
  exact ⟨⟨_,rfl,one_sl' _ _ _⟩,(below_new _ _).alloc (by simp) _⟩
 rw [if_neg h1]
 by_cases h2:op=12
 ·subst h2
  rw [if_pos rfl]
  go_enter Tryd.func83,Tryd.ntmps83
  go_wp2_with fail
  go_ret
  exact ⟨⟨_,rfl,two_sl' _ _ _ _⟩,(below_new _ _).alloc (by simp) _⟩
 rw [if_neg h2]
 by_cases h3:op=14
 ·subst h3
  rw [if_pos rfl]
  go_enter Tryd.func83,Tryd.ntmps83
  go_wp2_with fail
  go_ret
  exact ⟨⟨_,rfl,two_sl' _ _ _ _⟩,(below_new _ _).alloc (by simp) _⟩
 rw [if_neg h3]
 have f1:(op == 11)=false:=by simpa using h1
 have f2:(op == 12)=false:=by simpa using h2
 have f3:(op == 14)=false:=by simpa using h3
 go_enter Tryd.func83,Tryd.ntmps83
 go_wp2_with fail
 go_ret
 exact ⟨⟨_,rfl,one_sl' _ _ _⟩,(below_new _ _).alloc (by simp) _⟩
def intVs (l:List Int):List Value:=l.map fun z=>.int .i64 z
def posVs (os:List Nat):List Value:=os.map fun (o:Nat)=>Value.int .i64 ((o:Int)+1)
structure NS (w0 wF w:World) (rb wb B:Nat) (l:List In) (iv:Value) (os:List Nat) (ov:Value) (ws:List Int):Prop where
 blk:w.heap[rb]?=some (.cells #[iv,ov,.slice (some ⟨wb,0,none⟩) (l.length+1) (l.length+1)] 129 (0,0))
 img:InSl w0 l iv
 bel:Below w0.heap.size w0 w
 own:w.ownsRow B 3 1 ov os.length (posVs os)
 wth:w.heap[wb]?=some (.cells (intVs ws).toArray 3 (0,0))
 len:ws.length=l.length+1
 low:∀ o ∈ os,o<l.length
 ord:(w0.heap.size≤rb∧w0.heap.size≤wb)∧rb≠wb∧rb<B∧wb<B
 bas:B≤w.heap.size
 fix:∀ j,j<B→j≠rb→j≠wb→w.heap[j]?=wF.heap[j]?
theorem owns_value {w:World} {v:Value} {base n:Nat} {xs:List Value} {e:TypeId} {size:Nat} (h:w.ownsRow base e size v n xs):∃ ad cap,v = .slice ad n cap:=by
 rcases h.2 with ⟨rfl,rfl⟩ | ⟨g,cap,cur,rfl,_⟩
 ·exact ⟨_,_,rfl⟩
 ·exact ⟨_,_,rfl⟩
theorem posVs_at (os:List Nat) (j:Nat) (h:j<os.length):(posVs os)[j]?=some (.int .i64 ((os.getD j 0:Nat)+1)):=by
 simp [posVs,List.getD,h]
theorem pos_of_own {w:World} {B:Nat} {ov:Value} {os:List Nat} (h:w.ownsRow B 3 1 ov os.length (posVs os)):PosSl w os ov:=by
 obtain ⟨ad,cap,rfl⟩:=owns_value h
 refine ⟨ad,cap,rfl,?_⟩
 by_cases h0:os=[]
 ·exact .inl h0
 obtain ⟨-,⟨e,he⟩ | ⟨g,cap',cur,e,-,hg,-,-,-,ht⟩⟩:=h
 ·exact absurd (List.length_eq_zero_iff.1 he) h0
 cases e
 refine .inr ⟨g,0,rfl,fun j hj=>?_⟩
 have h1:=posVs_at os j hj
 rw [← ht,List.getElem?_take,if_pos (by omega)] at h1
 unfold World.cell?
 rw [hg]
 simpa using h1
theorem NS.rg {w0 wF w:World} {rb wb B:Nat} {l:List In} {iv:Value} {os:List Nat} {ov:Value} {ws:List Int} (h:NS w0 wF w rb wb B l iv os ov ws):RgAt w rb l os iv ov (.slice (some ⟨wb,0,none⟩) (l.length+1) (l.length+1)) :=
 ⟨h.blk,h.img.below h.bel,pos_of_own h.own,h.low⟩
theorem ownsRow_same {w w':World} {B n size:Nat} {e:TypeId} {v:Value} {xs:List Value} (h:w.ownsRow B e size v n xs) (hs:∀ k,B≤k→k<w.heap.size→w'.heap[k]?=w.heap[k]?):w'.ownsRow B e size v n xs:=by
 obtain ⟨hl,h | ⟨g,cap,cur,he,hb,hg,hr⟩⟩:=h
 ·exact ⟨hl,.inl h⟩
 ·exact ⟨hl,.inr ⟨g,cap,cur,he,hb,(hs g hb (Array.getElem?_eq_some_iff.1 hg).1).trans hg,hr⟩⟩
theorem setCell_at {w:World} {g i:Nat} {cs:Array Value} {t:TypeId} {fr:Nat × Nat} {u:Value} (h:w.heap[g]?=some (.cells cs t fr)):(w.setCell ⟨g,i,none⟩ u).heap[g]?=some (.cells (cs.setIfInBounds i u) t fr):=by
 have hlt:g<w.heap.size:=(Array.getElem?_eq_some_iff.1 h).1
 have h':w.heap[g] = .cells cs t fr:=by simpa [Array.getElem?_eq_getElem hlt] using h
 show (w.heap.modify g _)[g]?=_
 rw [Array.getElem?_eq_getElem (by simpa using hlt),Array.getElem_modify_self,h']
 rfl
section
variable {w0 wF w w':World} {rb wb B:Nat} {l:List In} {iv:Value} {os:List Nat} {ov:Value} {ws:List Int}
theorem NS.grow (h:NS w0 wF w rb wb B l iv os ov ws) (hb:Below w.heap.size w w'):NS w0 wF w' rb wb B l iv os ov ws:=by
 have old:∀ (k:Nat) (o:Obj),w.heap[k]?=some o→w'.heap[k]?=some o:=fun k o hk=>(hb.block k (Array.getElem?_eq_some_iff.1 hk).1).trans hk
 exact ⟨old _ _ h.blk,h.img,below_seq h.bel hb,ownsRow_same h.own (fun k _ hk=>hb.block k hk),old _ _ h.wth,h.len,h.low,h.ord,Nat.le_trans h.bas hb.size,fun j h1 h2 h3=>(hb.block j (Nat.lt_of_lt_of_le h1 h.bas)).trans (h.fix j h1 h2 h3)⟩
theorem NS.setW (h:NS w0 wF w rb wb B l iv os ov ws) (k:Nat) (z:Int):NS w0 wF (w.setCell ⟨wb,k,none⟩ (.int .i64 z)) rb wb B l iv os ov (ws.set k z):=by
 obtain ⟨⟨o1,o1'⟩,o2,o3,o4⟩:=h.ord
 refine ⟨(Below.heap_setCell _ _ _ _ (by show rb≠wb;omega)).trans h.blk,h.img,h.bel.setCell (by show w0.heap.size≤wb;omega) _,ownsRow_same h.own (fun j hj _=>Below.heap_setCell _ _ _ _ (by show j≠wb;omega)),?_,by rw [List.length_set];exact h.len,h.low,h.ord,by simpa using h.bas,fun j h1 h2 h3=>(Below.heap_setCell _ _ _ _ h3).trans (h.fix j h1 h2 h3)⟩
 rw [setCell_at h.wth]
 simp [intVs,List.map_set]
theorem NS.push (h:NS w0 wF w rb wb B l iv os ov ws) {ov':Value} {os':List Nat} (hg:w.grownBy w' ov.ownBlock) (ho:w'.ownsRow B 3 1 ov' os'.length (posVs os')) (hlow:∀ o ∈ os',o<l.length):NS w0 wF (w'.setCell ⟨rb,1,none⟩ ov') rb wb B l iv os' ov' ws:=by
 obtain ⟨⟨o1,o1'⟩,o2,o3,o4⟩:=h.ord
 have lr:rb<w.heap.size:=(Array.getElem?_eq_some_iff.1 h.blk).1
 have lw:wb<w.heap.size:=(Array.getElem?_eq_some_iff.1 h.wth).1
 have nb:∀ k,k<B→ov.ownBlock≠some k:=fun k hk e=>by have:=(h.own.lt k e).1;omega
 have b1:w'.heap[rb]?=w.heap[rb]?:=hg.block rb lr (fun e=>nb rb (by omega) e.symm)
 have b2:w'.heap[wb]?=w.heap[wb]?:=hg.block wb lw (fun e=>nb wb (by omega) e.symm)
 refine ⟨?_,h.img,(h.bel.grown hg h.bel.size (fun k hk=>by have:=(h.own.lt k hk).1;omega)).setCell (by show w0.heap.size≤rb;omega) _,ownsRow_same ho (fun j hj _=>Below.heap_setCell _ _ _ _ (by show j≠rb;omega)),(Below.heap_setCell _ _ _ _ (by show wb≠rb;omega)).trans (b2.trans h.wth),h.len,hlow,h.ord,by have:=h.bas;have:=hg.size;simp;omega,fun j k1 k2 k3=>(Below.heap_setCell _ _ _ _ k2).trans ((hg.block j (Nat.lt_of_lt_of_le k1 h.bas) (fun e=>nb j k1 e.symm)).trans (h.fix j k1 k2 k3))⟩
 rw [setCell_at (b1.trans h.blk)]
 simp
end
theorem NS.rebase {w0 wF w:World} {rb wb B:Nat} {l:List In} {iv:Value} {ws:List Int} (h:NS w0 wF w rb wb B l iv [] (.slice none 0 0) ws) {B':Nat} (h1:B≤B') (h2:B'≤w.heap.size):NS w0 w w rb wb B' l iv [] (.slice none 0 0) ws :=
 ⟨h.blk,h.img,h.bel,World.ownsRow_nil _ _ _ _,h.wth,h.len,h.low,⟨h.ord.1,h.ord.2.1,by have:=h.ord;omega,by have:=h.ord;omega⟩,h2,fun _ _ _ _=>rfl⟩
theorem posVs_append (a b:List Nat):posVs (a++b)=posVs a++posVs b:=by simp [posVs]
theorem ownsRow_shrink {w:World} {B:Nat} {ad:Option Addr} {c:Nat} {os:List Nat} {n:Nat} (h:w.ownsRow B 3 1 (.slice ad (n+1) c) os.length (posVs os)) (hn:os.length=n+1):w.ownsRow B 3 1 (.slice ad n c) os.dropLast.length (posVs os.dropLast):=by
 have hd:os.dropLast.length=n:=by simp [hn]
 obtain ⟨hl,⟨e,he⟩ | ⟨g,cap,cur,e,hb,hg,hc,hm,hs,ht⟩⟩:=h
 ·omega
 ·simp only [Value.slice.injEq] at e
  obtain ⟨rfl,-,rfl⟩:=e
  refine ⟨by simp [posVs],.inr ⟨g,c,cur,by rw [hd],hb,hg,by omega,hm,hs,?_⟩⟩
  have e2:posVs os.dropLast=(posVs os).take (os.dropLast.length*1):=by
   rw [hd,Nat.mul_one]
   unfold posVs
   rw [← List.map_take,List.dropLast_eq_take,hn]
   rfl
  rw [e2,← ht,List.take_take]
  congr 1
  omega
def nestOf (l:List In) (k:Nat) (x:In) (os:List Nat):Int × List Nat :=
 if x.op=13∨x.op=16 then (if opens l os x.op x.a≠none then (if x.op=13 then 9 else 10,os) else (0,os++[k]))
 else if x.op=14 then (if os=[]∨beginOf (opens l os 13 x.a)≠beginOf os.getLast?∨x.b≠beginOf os.getLast? then (9,os) else (0,os.dropLast))
 else if x.op=17 then (if os=[]∨beginOf (opens l os 16 x.a)≠beginOf os.getLast? then (10,os) else (0,os.dropLast))
 else if x.op=15 then (if opens l os 13 x.a=none then (9,os) else (0,os))
 else (0,os)
theorem append_two {P:Program} (w:World) (base base':Nat) (t ty e:TypeId) (i:TypeInfo) (z:Value) (size bytes:Nat) (ht:P.underlying t=some (.slice e)) (hi:P.info? e=some i) (hz:i.zero=some z)
  (hsize:i.size=size) (hby:i.bytes=bytes) (hzs:z.cells.size=size) (hsz:0<size) (v:Value) (n:Nat) (xs:List Value) (hown:w.ownsRow base e size v n xs)
  (x:Value) (m:Nat) (ys:List Value) (hx:w.ownsRow base' e size x m ys) (h1c:∀ u ∈ ys,u.oneCell'=true) (b1:n+m≤maxLen) (b2:(n+m)*bytes≤140737488355328) (hbase:base≤w.heap.size) :
  ∃ v' w',(Builtin.append_ #[t,t] ty #[v,x]).run P w = .ok v' w'∧w'.ownsRow base e size v' (n+m) (xs++ys)∧w.grownBy w' v.ownBlock∧(v'.ownBlock=v.ownBlock∨∀ k,v'.ownBlock=some k→w.heap.size≤k):=by
 have up:∀ (v':Value) (w':World),w'.ownsRow w.heap.size e size v' (n+m) (xs++ys)→w'.ownsRow base e size v' (n+m) (xs++ys):=by
  intro v' w' ho
  obtain ⟨q1,q2⟩:=ho
  refine ⟨q1,?_⟩
  rcases q2 with q2 | ⟨g,cap,cur,hv,hb,r⟩
  ·exact .inl q2
  ·exact .inr ⟨g,cap,cur,hv,Nat.le_trans hbase hb,r⟩
 have hx':=hx
 rcases hx' with ⟨hl,⟨rfl,rfl⟩ | ⟨g,cap,cur,rfl,hb,hgg,hcap,hcm,hcs,htk⟩⟩
 ·have hys:ys=[]:=List.eq_nil_of_length_eq_zero (by simpa using hl)
  subst hys
  refine ⟨v,w,run_append_owned_none w base t ty e i size ht hi v n xs hown,by simpa using hown,⟨rfl,rfl,rfl,Nat.le_refl _,fun _ _ _=>rfl⟩,.inl rfl⟩
 ·have hc:=hx.cells rfl
  have hown':=hown
  rcases hown' with ⟨hl',⟨rfl,rfl⟩ | ⟨g',cap',cur',rfl,hb',hgg',hcap',hcm',hcs',htk'⟩⟩
  ·have hxs:xs=[]:=List.eq_nil_of_length_eq_zero (by simpa using hl')
   subst hxs
   obtain ⟨v',w',r1,r2,r3,-⟩:=run_append_own (P:=P) w w.heap.size t ty e i z size bytes ht hi hz hsize hby hzs hsz (.slice none 0 0) 0 [] (World.ownsRow_nil w _ e size) ⟨g,0,none⟩ m cap ys hl hc h1c b1 b2 (Nat.le_refl _)
   exact ⟨v',w',r1,up v' w' r2,r3,.inr fun k hk=>(r2.lt k hk).1⟩
  ·by_cases hr:n+m≤cap'
   ·obtain ⟨w',r1,r2,r3⟩:=run_append_fits (P:=P) w base t ty e i size ht hi hsize g' n cap' xs hown ⟨g,0,none⟩ m cap ys hl hc h1c hr
    exact ⟨_,w',r1,r2,r3,.inl rfl⟩
   ·obtain ⟨v',w',r1,r2,r3⟩:=run_append_arg_grows (P:=P) w t ty e i z size bytes ht hi hz hsize hby hzs hsz ⟨g',0,none⟩ n cap' xs hl' (hown.cells rfl) ⟨g,0,none⟩ m cap ys hl hc (by omega) b1 b2
    exact ⟨v',w',r1,up v' w' r2,⟨r3.os,r3.tape,r3.output,r3.size,fun k hk _=>r3.block k hk (by simp)⟩,.inr fun k hk=>(r2.lt k hk).1⟩
theorem append_known {P:Program} {w:World} {ops:Array Oper} {rest:List Oper} {o:Oper} {a:Act} {Q:Exit→Act→World→Prop} (hgd:o.guard=none) (s x:Operand) (t:TypeId)
  (ho:o.op = .call { callee:=.builtin .append,args:=#[s,x],argTypes:=#[t,t] }) {v u v':Value} {w':World} (hs:a.eval s=v) (hx:a.eval x=u)
  (hrun:(Builtin.append_ #[t,t] o.type #[v,u]).run P w = .ok v' w') (h:wpList P ops Q rest (a.put o.dst v') w'):wpList P ops Q (o::rest) a w:=by
 refine wpList_plain hgd fun K hK=>?_
 unfold Oper.wp
 simp [execOp,ho,resolve,invoke,builtin,hs,hx,hrun,Result.andThen]
 exact hK _ _ h
theorem info3:(Tryd.prog.info? 3).map (fun i=>(i.zero,i.size,i.bytes))=some (some (.int .i64 0),1,8):=by kernel_rfl
end Go.Proofs.YtnkgbkkakokciacDoor
namespace Go.Proofs.YtnkgbkkakokciacDoor.B
open Go.ChangeShapes Go.WideShapes Go.ChangeAt Go.RowKit
abbrev Io:=In
def mvI (d:Int) (x:Io):Io:=if x.op=11∨x.op=12 then ⟨x.op,x.a+d,x.b⟩ else if x.op=14 then ⟨x.op,x.a,x.b+d⟩ else x
def mv (d:Int) (l:List Io):List Io:=l.map (mvI d)
theorem mvI_zero (x:Io):mvI 0 x=x:=by
 unfold mvI
 split
 ·simp
 ·split <;> simp
theorem mv_zero (l:List Io):mv 0 l=l:=by
 unfold mv
 rw [show mvI 0=id from funext mvI_zero]
 simp
theorem mvI_mvI (a b:Int) (x:Io):mvI a (mvI b x)=mvI (b+a) x:=by
 unfold mvI
 by_cases h:x.op=11∨x.op=12
 ·simp only [h,if_true,Int.add_assoc]
 ·by_cases h2:x.op=14
  ·simp [h2,Int.add_assoc]
  ·simp only [h,h2,if_false]
theorem mv_mv (a b:Int) (l:List Io):mv a (mv b l)=mv (b+a) l:=by
 unfold mv
 rw [List.map_map]
 congr 1
 exact funext fun x=>mvI_mvI a b x
theorem mv_append (d:Int) (a b:List Io):mv d (a++b)=mv d a++mv d b:=by simp [mv]
theorem mv_len (d:Int) (a:List Io):(mv d a).length=a.length:=by simp [mv]
theorem mv_nil (d:Int):mv d []=[]:=rfl
theorem mv_one (d:Int) (x:Io):mv d [x]=[mvI d x]:=rfl
def jn (a b:List Io):List Io:=a++mv a.length b
mutual
def Ex.pc:Ex→List Io
 | .mk k n a=>if k=1∨k=2 then [⟨k,n,0⟩] else if k=3 then [⟨9,n,0⟩] else if k=4 then Ex.pcAll a++[⟨1,0,0⟩,⟨1,1,0⟩,⟨5,0,0⟩,⟨6,0,0⟩] else Ex.pcAll a++[⟨k - 1,0,0⟩]
def Ex.pcAll:List Ex→List Io
 | []=>[]
 | e::r=>e.pc++Ex.pcAll r
end
def cdP (ck:Int) (ca cb:Ex):List Io:=ca.pc++cb.pc++[⟨if ck=2∨ck=3 then 8 else 7,0,0⟩]++(if 3≤ck then [⟨1,0,0⟩,⟨8,0,0⟩] else [])
def whP (c inner:List Io) (loops:Int):List Io:=jn (c++[⟨12,(c.length:Int)+1+inner.length+1,0⟩]) inner++[⟨11,((jn (c++[⟨12,(c.length:Int)+1+inner.length+1,0⟩]) inner).length:Int)+2,0⟩,⟨15,loops,0⟩]
def lpP (loops n:Int) (inner:List Io):List Io:=jn [⟨13,loops,n - 1⟩] inner++[⟨14,loops,1⟩]
def ifP (c a:List Io):List Io:=jn (c++[⟨12,(c.length:Int)+1+a.length,0⟩]) a
def elP (c a b:List Io):List Io:=jn (jn (c++[⟨12,(c.length:Int)+1+a.length+1,0⟩]) a++[⟨11,((jn (c++[⟨12,(c.length:Int)+1+a.length+1,0⟩]) a).length:Int)+1+b.length,0⟩]) b
mutual
def St.pc:St→Int→List Io
 | .mk k n e ck ca cb y l,i =>
  if k=1 then e.pc++[⟨3,n,0⟩]
  else if k=2 then e.pc++[⟨10,n,0⟩]
  else if k=3 then (if l.length=0 then ifP (cdP ck ca cb) (St.pcAll y i) else elP (cdP ck ca cb) (St.pcAll y i) (St.pcAll l i))
  else if k=4 then (if n=0 then [] else lpP i n (St.pcAll y (i+1)))
  else if k=5 then (if n=0 then [] else lpP i n (whP (cdP ck ca cb) (St.pcAll y (i+1)) i))
  else if k=6 then jn [⟨16,n,0⟩] (St.pcAll y i)++[⟨17,n,0⟩]
  else [⟨18,n,0⟩]
def St.pcAll:List St→Int→List Io
 | [],_=>[]
 | s::r,i=>jn (s.pc i) (St.pcAll r i)
end
theorem jn_len (a b:List Io):(jn a b).length=a.length+b.length:=by simp [jn,mv_len]
theorem jn_nil (a:List Io):jn a []=a:=by simp [jn,mv]
theorem nil_jn (a:List Io):jn [] a=a:=by
 unfold jn
 rw [show (([]:List Io).length:Int)=0 from rfl,mv_zero]
 rfl
theorem mv_jn (d:Int) (a b:List Io):mv d (jn a b)=mv d a++mv (d+a.length) b:=by
 unfold jn
 rw [mv_append,mv_mv,Int.add_comm]
theorem jn_jn (a b c:List Io):jn (jn a b) c=jn a (jn b c):=by
 show (a++mv a.length b)++mv ((jn a b).length) c=a++mv a.length (jn b c)
 rw [mv_jn,jn_len,List.append_assoc]
 congr 2
def insVs:List Io→List Value
 | []=>[]
 | x::t=>.int .i64 x.op :: .int .i64 x.a :: .int .i64 x.b::insVs t
theorem insVs_append:∀ a b:List Io,insVs (a++b)=insVs a++insVs b
 | [],_=>rfl
 | x::t,b=>by simp only [List.cons_append,insVs,insVs_append t b]
theorem insVs_len:∀ a:List Io,(insVs a).length=a.length*3
 | []=>rfl
 | x::t=>by simp only [insVs,List.length_cons,insVs_len t];omega
theorem infoN:(Tryd.prog.info? 35).map (fun i=>(i.zero,i.size,i.bytes))=some (some (.agg #[.int .i64 0,.int .i64 0,.int .i64 0]),3,24):=by kernel_rfl
theorem wp_pushI {w:World} {ops:Array Oper} {rest:List Oper} {o:Oper} {a:Act} {Q:Exit→Act→World→Prop} (hgd:o.guard=none) (s x:Operand)
  (ho:o.op = .call { callee:=.builtin .append,args:=#[s,x],argTypes:=#[22,22] }) (B:Nat) (v:Value) (l:List Io) (p q r:Int) (g n:Nat) (hgg:w.heap.size=g) (hn:l.length=n) (hs:a.eval s=v) (hx:a.eval x = .slice (some ⟨g,0,none⟩) 1 1)
  (hown:w.ownsRow B 35 3 v n (insVs l)) (hB:B≤w.heap.size) (hl:n≤4000000)
  (h:∀ ad c w',w'.ownsRow B 35 3 (.slice ad (n+1) c) (n+1) (insVs (l++[⟨p,q,r⟩]))→(w.alloc (.cells #[.int .i64 p,.int .i64 q,.int .i64 r] 35)).grownBy w' v.ownBlock→((Value.slice ad (n+1) c).ownBlock=v.ownBlock∨∀ k,(Value.slice ad (n+1) c).ownBlock=some k→(w.alloc (.cells #[.int .i64 p,.int .i64 q,.int .i64 r] 35)).heap.size≤k)→wpList Tryd.prog ops Q rest (a.put o.dst (.slice ad (n+1) c)) w'):wpList Tryd.prog ops Q (o::rest) a (w.alloc (.cells #[.int .i64 p,.int .i64 q,.int .i64 r] 35)):=by
 subst hgg hn
 obtain ⟨i0,hi0,hz0,hz1,hz2⟩:=info_parts infoN
 have hown':(w.alloc (.cells #[.int .i64 p,.int .i64 q,.int .i64 r] 35)).ownsRow B 35 3 v l.length (insVs l):=ownsRow_same hown (fun k _ hk=>(below_new w _).block k hk)
 obtain ⟨v4,w4,hrun,ho4,hg4,hv4⟩:=append_two (P:=Tryd.prog) (w.alloc (.cells #[.int .i64 p,.int .i64 q,.int .i64 r] 35)) B w.heap.size 22 o.type 35 i0 _ 3 24 Tryd.underlying22 hi0 hz0 hz1 hz2 rfl (by decide) v l.length (insVs l) hown' _ 1 [.int .i64 p,.int .i64 q,.int .i64 r] (World.ownsRow_lit w #[.int .i64 p,.int .i64 q,.int .i64 r] 1 (Nat.le_refl _) (by decide) rfl) (by intro u hu;simp at hu;rcases hu with hu | hu | hu <;> subst hu <;> rfl) (by unfold maxLen;omega) (by omega) (by simp;omega)
 obtain ⟨vad,vcap,rfl⟩:=owns_value ho4
 refine append_known hgd s x 22 ho hs hx hrun ?_
 exact h vad vcap w4 (by rw [insVs_append];exact ho4) hg4 hv4
structure BW (w0 w:World) (bb:Nat) (img:List Io) (loops:Int) (iv:Value):Prop where
 bel:Below w0.heap.size w0 w
 old:w0.heap.size≤bb
 blk:w.heap[bb]?=some (.cells #[iv,.int .i64 loops] 115 (0,0))
 own:w.ownsRow (bb+1) 35 3 iv img.length (insVs img)
structure BG (bb:Nat) (w w':World) (v v':Value):Prop where
 os:w'.os=w.os
 tape:w'.tape=w.tape
 output:w'.output=w.output
 size:w.heap.size≤w'.heap.size
 oth:∀ k,k<w.heap.size→k≠bb→v.ownBlock≠some k→w'.heap[k]?=w.heap[k]?
 own:v'.ownBlock=v.ownBlock∨∀ k,v'.ownBlock=some k→w.heap.size≤k
theorem BG.refl (bb:Nat) (w:World) (v:Value):BG bb w w v v:=⟨rfl,rfl,rfl,Nat.le_refl _,fun _ _ _ _=>rfl,.inl rfl⟩
theorem BG.trans {bb:Nat} {a b c:World} {u v x:Value} (h:BG bb a b u v) (h':BG bb b c v x):BG bb a c u x:=by
 refine ⟨h'.os.trans h.os,h'.tape.trans h.tape,h'.output.trans h.output,Nat.le_trans h.size h'.size,fun k h1 h2 h3=>?_,?_⟩
 ·refine (h'.oth k (by have:=h.size;omega) h2 fun e=>?_).trans (h.oth k h1 h2 h3)
  rcases h.own with ho | ho
  ·exact h3 (ho ▸ e)
  ·have:=ho k e;omega
 ·rcases h'.own with ho | ho
  ·rcases h.own with hp | hp
   ·exact .inl (ho.trans hp)
   ·exact .inr fun k hk=>hp k (ho ▸ hk)
  ·exact .inr fun k hk=>Nat.le_trans h.size (ho k hk)
theorem BG.of_below {bb:Nat} {a b:World} {v:Value} (h:Below a.heap.size a b):BG bb a b v v:=⟨h.os,h.tape,h.output,h.size,fun k hk _ _=>h.block k hk,.inl rfl⟩
theorem BW.below {w0 w w':World} {bb:Nat} {img:List Io} {loops:Int} {iv:Value} (h:BW w0 w bb img loops iv) (hb:Below w.heap.size w w'):BW w0 w' bb img loops iv :=
 ⟨below_seq h.bel hb,h.old,(hb.block bb (Array.getElem?_eq_some_iff.1 h.blk).1).trans h.blk,ownsRow_same h.own (fun k _ hk=>hb.block k hk)⟩
theorem BW.cells {w0 w:World} {bb:Nat} {img:List Io} {loops:Int} {iv:Value} (h:BW w0 w bb img loops iv):w.cell? ⟨bb,0,none⟩=some iv∧w.cell? ⟨bb,1,none⟩=some (.int .i64 loops)∧(∀ j,w.frozen? ⟨bb,j,none⟩=false)∧bb<w.heap.size:=by
 obtain ⟨c1,f1,l1⟩:=cells_of (l:=[_,_]) h.blk
 exact ⟨c1 0 _ rfl,c1 1 _ rfl,f1,l1⟩
theorem BW.shape {w0 w:World} {bb:Nat} {img:List Io} {loops:Int} {iv:Value} (h:BW w0 w bb img loops iv):∃ ad c,iv = .slice ad img.length c:=owns_value h.own
theorem BW.push {w0 w w4:World} {bb:Nat} {img img':List Io} {loops:Int} {iv:Value} {ad:Option Addr} {c:Nat} (h:BW w0 w bb img loops iv) {o:Obj} (ho:w4.ownsRow (bb+1) 35 3 (.slice ad img'.length c) img'.length (insVs img')) (hg:(w.alloc o).grownBy w4 iv.ownBlock)
  (hv:(Value.slice ad img'.length c).ownBlock=iv.ownBlock∨∀ k,(Value.slice ad img'.length c).ownBlock=some k→(w.alloc o).heap.size≤k) :
  w4.heap[bb]?=some (.cells #[iv,.int .i64 loops] 115 (0,0))∧BW w0 (w4.setCell ⟨bb,0,none⟩ (.slice ad img'.length c)) bb img' loops (.slice ad img'.length c)∧BG bb w (w4.setCell ⟨bb,0,none⟩ (.slice ad img'.length c)) iv (.slice ad img'.length c):=by
 have hlt:=h.cells.2.2.2
 have hlow:=h.old
 have hown:∀ k,iv.ownBlock=some k→bb+1≤k:=fun k hk=>(h.own.lt k hk).1
 have hb:Below (bb+1) w w4:=((Below.refl (bb+1) w).alloc (by omega) _).grown hg (by simp;omega) (fun k hk=>hown k hk)
 have hk:=(hb.block bb (by omega)).trans h.blk
 refine ⟨hk,⟨(h.bel.trans (hb.mono (by omega))).setCell (by show w0.heap.size≤bb;omega) _,h.old,?_,?_⟩,?_⟩
 ·rw [setCell_at hk];simp
 ·exact ownsRow_same ho (fun k hk1 _=>Below.heap_setCell _ _ _ _ (by show k≠bb;omega))
 ·have hs:w.heap.size≤w4.heap.size:=by have:=hg.size;simp at this;omega
  refine ⟨hg.os,hg.tape,hg.output,by simpa using hs,fun k h1 h2 h3=>?_,?_⟩
  ·refine (Below.heap_setCell _ _ _ _ h2).trans ?_
   refine (hg.block k (by simp;omega) (fun e=>h3 e.symm)).trans ?_
   exact (below_new w o).block k h1
  ·rcases hv with hv | hv
   ·exact .inl hv
   ·exact .inr fun k hk=>by have:=hv k hk;simp at this;omega
set_option maxRecDepth 20000 in
set_option maxHeartbeats 4000000 in
theorem put_any (w0 w:World) (bb:Nat) (img:List Io) (loops:Int) (iv:Value) (op a:Int) (hw:BW w0 w bb img loops iv) (hl:img.length≤1000000):Calls Tryd.prog 122 #[.pointer (some ⟨bb,0,none⟩),.int .i64 op,.int .i64 a] w fun r w'=>r = .returned (.tuple #[])∧∃ iv',BW w0 w' bb (img++[⟨op,a,0⟩]) loops iv'∧BG bb w w' iv iv':=by
 obtain ⟨ad,c,rfl⟩:=hw.shape
 obtain ⟨c0,c1,fz,hlt⟩:=hw.cells
 have HW:Hid (BW w0 w bb img loops (.slice ad img.length c)):=hw
 clear hw fz
 go_enter Tryd.func122,Tryd.ntmps122
 go_wp2_with (at_builtin;refine wp_pushI rfl (.tmp 10) (.tmp 14) rfl (bb+1) (.slice ad img.length c) img op a 0 w.heap.size img.length rfl rfl rfl rfl HW.out.own (by omega) (by omega) ?_;intro ad4 c4 w4 ho4 hg4 hv4;obtain ⟨q1,q2,q3⟩:=HW.out.push (img':=img++[⟨op,a,0⟩]) (by simpa using ho4) hg4 (by simpa using hv4);have H4:Hid (_∧_):=⟨q2,q3⟩;obtain ⟨d1,e1,l1⟩:=cells_of (l:=[_,_]) q1;have d10:=d1 0 _ rfl;have e10:=e1 0;clear q1 q2 q3 ho4 hg4 hv4 d1 e1)
 go_end0
 simp only [List.length_append,List.length_cons,List.length_nil,Nat.zero_add] at H4
 exact ⟨rfl,_,H4.out.1,H4.out.2⟩
theorem below_round {w wr w':World} {o:Obj} (h:Below w.heap.size w wr) (h':Below (wr.alloc o).heap.size (wr.alloc o) w'):Below w.heap.size w w' :=
 (h.alloc h.size o).trans (h'.mono (by have:=h.size;simp;omega))
mutual
def Ex.deep:Ex→Int
 | .mk _ _ a=>Ex.deepAll 1 a
def Ex.deepAll (d:Int):List Ex→Int
 | []=>d
 | x::r=>Ex.deepAll (max d (1+x.deep)) r
end
mutual
theorem Ex.deep_le:∀ e:Ex,1≤e.deep∧e.deep≤e.nodes
 | .mk _ _ a=>by
  have:=Ex.deepAll_le a 1
  unfold Ex.deep Ex.nodes
  omega
theorem Ex.deepAll_le:∀ (a:List Ex) (d:Int),d≤Ex.deepAll d a∧Ex.deepAll d a≤max d (1+Ex.nodesAll a)
 | [],d=>by unfold Ex.deepAll;omega
 | x::r,d=>by
  have:=Ex.deep_le x
  have:=Ex.deepAll_le r (max d (1+x.deep))
  unfold Ex.deepAll Ex.nodesAll
  omega
end
theorem Ex.deepAll_at {a:List Ex} {j:Nat} (h:j<a.length) (d:Int):Ex.deepAll d (a.drop j)=Ex.deepAll (max d (1+a[j].deep)) (a.drop (j+1)):=by
 rw [drop_at h,Ex.deepAll]
set_option maxHeartbeats 400000 in
theorem deepExpr_any (N:Nat):∀ (e:Ex) (w:World) (v:Value),e.nodes≤N→N≤1048576→e.In w v →
  Calls Tryd.prog 96 #[v] w fun r w'=>r = .returned (.int .i64 e.deep)∧Below w.heap.size w w':=by
 induction N with
 | zero=>intro e w v h;have:=e.nodes_pos;omega
 | succ N ih =>
  intro e w v hN hle hin
  obtain ⟨k,n,a⟩:=e
  unfold Ex.nodes at hN
  have hlen:=length_le_nodesAll a
  unfold Ex.In at hin
  obtain ⟨ad,c,rfl,hrow⟩:=hin
  have HR:Hid (a=[]∨∃ b o,ad=some ⟨b,o,none⟩∧Ex.Row w a b o):=hrow
  clear hrow
  have IH:Hid _:=ih
  clear ih
  go_enter Tryd.func96,Tryd.ntmps96
  go_wp2_with fail
  go_loopw [3,5,9] (fun x _ i wr=>∃ (j:Nat) (d:Int),j≤a.length∧i = .int .i64 j∧x = .int .i64 d∧1≤d∧d≤1+Ex.nodesAll a∧Ex.deepAll d (a.drop j)=Ex.deepAll 1 a∧Below w.heap.size w wr) (fun _ _ i _=>a.length - (intOf i).toNat)
  case atStart=>exact ⟨0,1,Nat.zero_le _,rfl,rfl,by omega,by omega,rfl,(Below.refl _ _).alloc (Nat.le_refl _) _⟩
  case round =>
   obtain ⟨j,d,hj,rfl,rfl,hd1,hd2,hdd,hb⟩:=hrel
   by_cases hlt:j<a.length
   ·rcases HR.out with h | ⟨b,o,had,hrow⟩
    ·subst h;simp at hlt
    ·subst had
     obtain ⟨xk,xn,xad,xm,xc,c0,c1,c2,hin⟩:=(Ex.Row.below hb a hrow).shape hlt
     have hnd:=nodesAll_at a j a[j] (by simp [hlt])
     have hdl:=Ex.deep_le a[j]
     have hdd':Hid (Ex.deepAll d (a.drop j)=Ex.deepAll 1 a):=hdd
     clear hdd hrow
     have HI:Hid _:=hin
     clear hin
     have HB:Hid _:=hb
     clear hb
     generalize hx:a[j]=x at *
     have HX:Hid _:=hx
     clear hx
     go_wp2_with (go_at_call 96;refine (IH.out x _ _ (by omega) (by omega) ?hx).mono ?_;rotate_left 1;rintro e w' ⟨rfl,hb'⟩)
     case hx=>exact Ex.In.below ((Below.refl _ _).alloc (Nat.le_refl _) _) _ HI.out
     go_roundw
     case rel =>
      refine ⟨j+1,max d (1+x.deep),by omega,by go_num,?_,by omega,by omega,?_,?_⟩
      ·congr 1;split <;> omega
      ·rw [← hdd'.out,Ex.deepAll_at hlt,HX.out]
      ·exact below_round HB.out hb'
     case measure=>simp [intOf];omega
   ·go_wp2_with fail
    go_ret
    rw [List.drop_of_length_le (by omega),Ex.deepAll] at hdd
    exact ⟨ret_int (by rw [Ex.deep,hdd]),hb⟩
mutual
def St.deep:St→Int
 | .mk _ _ e _ ca cb b l=>max (1+max (St.deepAll 0 b) (St.deepAll 0 l)) (max e.deep (max ca.deep cb.deep))
def St.deepAll (d:Int):List St→Int
 | []=>d
 | x::r=>St.deepAll (max d x.deep) r
end
mutual
theorem St.deep_le:∀ e:St,1≤e.deep∧e.deep≤e.bulk
 | .mk _ _ e _ ca cb b l=>by
  have:=St.deepAll_le b 0
  have:=St.deepAll_le l 0
  have:=e.deep_le
  have:=ca.deep_le
  have:=cb.deep_le
  unfold St.deep St.bulk
  omega
theorem St.deepAll_le:∀ (a:List St) (d:Int),d≤St.deepAll d a∧St.deepAll d a≤max d (St.bulkAll a)
 | [],d=>by unfold St.deepAll;omega
 | x::r,d=>by
  have:=St.deep_le x
  have:=St.deepAll_le r (max d x.deep)
  unfold St.deepAll St.bulkAll
  omega
end
theorem St.deepAll_at {a:List St} {j:Nat} (h:j<a.length) (d:Int):St.deepAll d (a.drop j)=St.deepAll (max d a[j].deep) (a.drop (j+1)):=by
 rw [drop_at h,St.deepAll]
theorem keep12 {W1 w1 w2:World} {p2 p3 p4 p6 p7 p8 p9 p10 p11 p12 p13:Addr} {x2 x3 x4 x6 x7 x8 x9 x10 x11 x12 x13:Value}
  (h:Below W1.heap.size W1 w1∧w1.cell? p2=some x2∧w1.cell? p3=some x3∧w1.cell? p4=some x4∧w1.cell? p6=some x6∧w1.cell? p7=some x7∧w1.cell? p8=some x8∧w1.cell? p9=some x9∧w1.cell? p10=some x10∧w1.cell? p11=some x11∧w1.cell? p12=some x12∧w1.cell? p13=some x13)
  (hb:Below w1.heap.size w1 w2) :
  Below W1.heap.size W1 w2∧w2.cell? p2=some x2∧w2.cell? p3=some x3∧w2.cell? p4=some x4∧w2.cell? p6=some x6∧w2.cell? p7=some x7∧w2.cell? p8=some x8∧w2.cell? p9=some x9∧w2.cell? p10=some x10∧w2.cell? p11=some x11∧w2.cell? p12=some x12∧w2.cell? p13=some x13:=by
 obtain ⟨h1,h2,h3,h4,h6,h7,h8,h9,h10,h11,h12,h13⟩:=h
 exact ⟨h1.trans (hb.mono h1.size),below_cell hb h2,below_cell hb h3,below_cell hb h4,below_cell hb h6,below_cell hb h7,below_cell hb h8,below_cell hb h9,below_cell hb h10,below_cell hb h11,below_cell hb h12,below_cell hb h13⟩
theorem below_seq {a b c:World} (h:Below a.heap.size a b) (h':Below b.heap.size b c):Below a.heap.size a c:=h.trans (h'.mono h.size)
theorem Sl_keep {wr W1 w1:World} {X:Prop} {b:List St} {v:Value} (h:St.Sl wr b v) (h1:Below wr.heap.size wr W1) (h2:Below W1.heap.size W1 w1∧X):St.Sl w1 b v:=h.below (below_seq h1 h2.1)
theorem Ex_keep {wr W1 w1:World} {X:Prop} {e:Ex} {v:Value} (h:e.In wr v) (h1:Below wr.heap.size wr W1) (h2:Below W1.heap.size W1 w1∧X):e.In w1 v:=Ex.In.below (below_seq h1 h2.1) _ h
theorem wrap_in (n:Int) (h : -9223372036854775808≤n∧n≤9223372036854775807):IntKind.i64.wrap n=n:=by rw [IntKind.wrap_i64];omega
theorem max5 (a b c d e:Int) (P:Program) (w:World):(Builtin.max_ #[3,3,3,3,3] 3 #[.int .i64 a,.int .i64 b,.int .i64 c,.int .i64 d,.int .i64 e]).run P w =
  .ok (.int .i64 (if (if (if (if a<b then b else a)<c then c else (if a<b then b else a))<d then d else (if (if a<b then b else a)<c then c else (if a<b then b else a)))<e then e else
   (if (if (if a<b then b else a)<c then c else (if a<b then b else a))<d then d else (if (if a<b then b else a)<c then c else (if a<b then b else a))))) w:=by
 simp [Builtin.max_,Builtin.max2]
theorem max_is (a b:Int):∃ m,(if a<b then b else a)=m∧Hid (m=max a b)∧(a≤m∧b≤m∧m≤max a b):=⟨_,rfl,by unfold Hid;split <;> omega,by split <;> omega⟩
set_option maxHeartbeats 1000000 in
theorem Deep_any (N:Nat):∀ (a:List St) (w:World) (v:Value),St.bulkAll a≤N→N≤1048576→St.Sl w a v →
  Calls Tryd.prog 61 #[v] w fun r w'=>r = .returned (.int .i64 (St.deepAll 0 a))∧Below w.heap.size w w':=by
 induction N with
 | zero =>
  intro a w v hN hle hin
  have hlen:=length_le_bulkAll a
  obtain ⟨ad,c,rfl,hrow⟩:=hin
  have h0:a.length=0:=by omega
  have ha:a=[]:=List.eq_nil_of_length_eq_zero h0
  subst ha
  clear hrow
  go_enter Tryd.func61,Tryd.ntmps61
  go_wp2_with fail
  go_loopw [3,5,8] (fun x _ i wr=>i = .int .i64 0∧x = .int .i64 0∧Below w.heap.size w wr) (fun _ _ _ _=>0)
  case atStart=>exact ⟨rfl,rfl,Below.refl _ _⟩
  case round =>
   obtain ⟨rfl,rfl,hb⟩:=hrel
   go_wp2_with fail
   go_ret
   exact ⟨ret_int (by rw [St.deepAll]),hb⟩
 | succ N ih =>
  intro a w v hN hle hin
  have hlen:=length_le_bulkAll a
  obtain ⟨ad,c,rfl,hrow⟩:=hin
  have HR:Hid (a=[]∨∃ b o,ad=some ⟨b,o,none⟩∧St.Row w a b o):=hrow
  clear hrow
  have IH:Hid _:=ih
  clear ih
  go_enter Tryd.func61,Tryd.ntmps61
  go_wp2_with fail
  go_loopw [3,5,8] (fun x _ i wr=>∃ (j:Nat) (d:Int),j≤a.length∧i = .int .i64 j∧x = .int .i64 d∧0≤d∧d≤St.bulkAll a∧St.deepAll d (a.drop j)=St.deepAll 0 a∧Below w.heap.size w wr) (fun _ _ i _=>a.length - (intOf i).toNat)
  case atStart=>exact ⟨0,0,Nat.zero_le _,rfl,rfl,by omega,by omega,rfl,Below.refl _ _⟩
  case round =>
   obtain ⟨j,d,hj,rfl,rfl,hd1,hd2,hdd,hb⟩:=hrel
   by_cases hlt:j<a.length
   ·rcases HR.out with h | ⟨b,o,had,hrow⟩
    ·subst h;simp at hlt
    ·subst had
     have hbk:=bulkAll_at a j a[j] (by simp [hlt])
     have hdl:=St.deep_le a[j]
     obtain ⟨sk,sn,se,sck,sca,scb,sy,sl,hs,ek,en,ead,em,ec,ak,an,aad,am,ac,bk,bn,bad,bm,bc,yad,yc,lad,lc,c0,c1,c2,c3,c4,c5,c6,c7,c8,c9,c10,c11,c12,c13,i1,i2,i3,i4,i5⟩:=(St.Row.below hb a hrow).shape hlt
     have hdd':Hid (St.deepAll d (a.drop j)=St.deepAll 0 a):=hdd
     clear hdd hrow
     have HI:Hid (_∧_∧_∧_∧_):=⟨i1,i2,i3,i4,i5⟩
     clear i1 i2 i3 i4 i5
     have HB:Hid _:=hb
     clear hb
     have HX:Hid _:=hs
     rw [hs] at hbk hdl
     unfold St.bulk at hbk
     clear hs
     go_wp2_with fail
     have hB1:Below wr.heap.size wr (wr.alloc (.cells #[.int .i64 sk,.int .i64 sn,.int .i64 ek,.int .i64 en,.slice ead em ec,.int .i64 sck,.int .i64 ak,.int .i64 an,.slice aad am ac,.int .i64 bk,.int .i64 bn,.slice bad bm bc,.slice yad sy.length yc,.slice lad sl.length lc] 123)):=(Below.refl _ _).alloc (Nat.le_refl _) _
     have hC1:∀ i,i<14→(wr.alloc (.cells #[.int .i64 sk,.int .i64 sn,.int .i64 ek,.int .i64 en,.slice ead em ec,.int .i64 sck,.int .i64 ak,.int .i64 an,.slice aad am ac,.int .i64 bk,.int .i64 bn,.slice bad bm bc,.slice yad sy.length yc,.slice lad sl.length lc] 123)).cell? ⟨wr.heap.size,i,none⟩=#[Value.int .i64 sk,.int .i64 sn,.int .i64 ek,.int .i64 en,.slice ead em ec,.int .i64 sck,.int .i64 ak,.int .i64 an,.slice aad am ac,.int .i64 bk,.int .i64 bn,.slice bad bm bc,.slice yad sy.length yc,.slice lad sl.length lc][i]?:=fun i _=>World.cell?_alloc_at _ _ _ _ rfl
     generalize wr.alloc (.cells #[.int .i64 sk,.int .i64 sn,.int .i64 ek,.int .i64 en,.slice ead em ec,.int .i64 sck,.int .i64 ak,.int .i64 an,.slice aad am ac,.int .i64 bk,.int .i64 bn,.slice bad bm bc,.slice yad sy.length yc,.slice lad sl.length lc] 123)=W1 at *
     have d2:=hC1 2 (by omega)
     have d3:=hC1 3 (by omega)
     have d4:=hC1 4 (by omega)
     have d6:=hC1 6 (by omega)
     have d7:=hC1 7 (by omega)
     have d8:=hC1 8 (by omega)
     have d9:=hC1 9 (by omega)
     have d10:=hC1 10 (by omega)
     have d11:=hC1 11 (by omega)
     have d12:=hC1 12 (by omega)
     have d13:=hC1 13 (by omega)
     clear hC1
     simp at d2 d3 d4 d6 d7 d8 d9 d10 d11 d12 d13
     have HB1:Hid _:=hB1
     clear hB1 c0 c1 c2 c3 c4 c5 c6 c7 c8 c9 c10 c11 c12 c13
     have q1:=se.deep_le
     have q2:=sca.deep_le
     have q3:=scb.deep_le
     have q4:=St.deepAll_le sy 0
     have q5:=St.deepAll_le sl 0
     obtain ⟨m1,e1,f1,b1⟩:=max_is (St.deepAll 0 sy) (St.deepAll 0 sl)
     obtain ⟨m2,e2,f2,b2⟩:=max_is d (1+m1)
     obtain ⟨m3,e3,f3,b3⟩:=max_is m2 se.deep
     obtain ⟨m4,e4,f4,b4⟩:=max_is m3 sca.deep
     obtain ⟨m5,e5,f5,b5⟩:=max_is m4 scb.deep
     have hmx:∀ w',(Builtin.max_ #[3,3,3,3,3] 3 #[.int .i64 d,.int .i64 (1+m1),.int .i64 se.deep,.int .i64 sca.deep,.int .i64 scb.deep]).run Tryd.prog w' = .ok (.int .i64 m5) w':=by
      intro w';rw [max5,e2,e3,e4,e5]
     have hwr:IntKind.i64.wrap (1+m1)=1+m1:=wrap_in _ (by omega)
     go_region_held3 (fun w'=>Below W1.heap.size W1 w'∧w'.cell? ⟨wr.heap.size,2,none⟩=some (.int .i64 ek)∧w'.cell? ⟨wr.heap.size,3,none⟩=some (.int .i64 en)∧w'.cell? ⟨wr.heap.size,4,none⟩=some (.slice ead em ec)∧w'.cell? ⟨wr.heap.size,6,none⟩=some (.int .i64 ak)∧w'.cell? ⟨wr.heap.size,7,none⟩=some (.int .i64 an)∧w'.cell? ⟨wr.heap.size,8,none⟩=some (.slice aad am ac)∧w'.cell? ⟨wr.heap.size,9,none⟩=some (.int .i64 bk)∧w'.cell? ⟨wr.heap.size,10,none⟩=some (.int .i64 bn)∧w'.cell? ⟨wr.heap.size,11,none⟩=some (.slice bad bm bc)∧w'.cell? ⟨wr.heap.size,12,none⟩=some (.slice yad sy.length yc)∧w'.cell? ⟨wr.heap.size,13,none⟩=some (.slice lad sl.length lc))
      (first | assumption | exact ⟨(Below.refl _ _).drew,d2,d3,d4,d6,d7,d8,d9,d10,d11,d12,d13⟩)
      (first
       | (go_at_call_of 61 sy.length;refine (IH.out sy _ _ (by omega) (by omega) (Sl_keep HI.out.2.2.2.1 HB1.out ‹Below W1.heap.size W1 _∧_›)).mono ?_;rintro e w' ⟨rfl,hb'⟩;have hS':=keep12 ‹Below W1.heap.size W1 _∧_› hb';clear hb')
       | (go_at_call_of 61 sl.length;refine (IH.out sl _ _ (by omega) (by omega) (Sl_keep HI.out.2.2.2.2 HB1.out ‹Below W1.heap.size W1 _∧_›)).mono ?_;rintro e w' ⟨rfl,hb'⟩;have hS':=keep12 ‹Below W1.heap.size W1 _∧_› hb';clear hb')
       | (go_at_call_of 96 ek;refine (deepExpr_any _ se _ _ (Nat.le_refl _) (by omega) (Ex_keep HI.out.1 HB1.out ‹Below W1.heap.size W1 _∧_›)).mono ?_;rintro e w' ⟨rfl,hb'⟩;have hS':=keep12 ‹Below W1.heap.size W1 _∧_› hb';clear hb')
       | (go_at_call_of 96 ak;refine (deepExpr_any _ sca _ _ (Nat.le_refl _) (by omega) (Ex_keep HI.out.2.1 HB1.out ‹Below W1.heap.size W1 _∧_›)).mono ?_;rintro e w' ⟨rfl,hb'⟩;have hS':=keep12 ‹Below W1.heap.size W1 _∧_› hb';clear hb')
       | (go_at_call_of 96 bk;refine (deepExpr_any _ scb _ _ (Nat.le_refl _) (by omega) (Ex_keep HI.out.2.2.1 HB1.out ‹Below W1.heap.size W1 _∧_›)).mono ?_;rintro e w' ⟨rfl,hb'⟩;have hS':=keep12 ‹Below W1.heap.size W1 _∧_› hb';clear hb'))
     all_goals
      go_wp2_with fail
      go_roundw
      case rel =>
       refine ⟨j+1,m5,by omega,by go_num,rfl,by omega,by omega,?_,?_⟩
       ·rw [← hdd'.out,St.deepAll_at hlt,HX.out,f5.out,f4.out,f3.out,f2.out,f1.out,St.deep]
        congr 1
        omega
       ·exact below_seq HB.out (below_seq HB1.out (And.left ‹Below W1.heap.size W1 _∧_›))
      case measure=>simp [intOf];omega
   ·go_wp2_with fail
    go_ret
    rw [List.drop_of_length_le (by omega),St.deepAll] at hdd
    exact ⟨ret_int (by rw [hdd]),hb⟩
mutual
def St.count:St→Nat
 | .mk _ _ _ _ _ _ b l=>1+St.countAll b+St.countAll l
def St.countAll:List St→Nat
 | []=>0
 | x::r=>x.count+St.countAll r
end
mutual
theorem St.count_le:∀ e:St,e.count≤e.bulk
 | .mk _ _ e _ ca cb b l=>by
  have:=St.countAll_le b
  have:=St.countAll_le l
  unfold St.count St.bulk
  omega
theorem St.countAll_le:∀ (a:List St),St.countAll a≤St.bulkAll a
 | []=>by unfold St.countAll;omega
 | x::r=>by
  have:=St.count_le x
  have:=St.countAll_le r
  unfold St.countAll St.bulkAll
  omega
end
theorem St.countAll_at {a:List St} {j:Nat} (h:j<a.length):St.countAll (a.drop j)=a[j].count+St.countAll (a.drop (j+1)):=by
 rw [drop_at h,St.countAll]
theorem copy14 (wr:World) (x0 x1 x2 x3 x4 x5 x6 x7 x8 x9 x10 x11 x12 x13:Value) :
  Below wr.heap.size wr (wr.alloc (.cells #[x0,x1,x2,x3,x4,x5,x6,x7,x8,x9,x10,x11,x12,x13] 123)) ∧
  (wr.alloc (.cells #[x0,x1,x2,x3,x4,x5,x6,x7,x8,x9,x10,x11,x12,x13] 123)).cell? ⟨wr.heap.size,0,none⟩=some x0 ∧
  (wr.alloc (.cells #[x0,x1,x2,x3,x4,x5,x6,x7,x8,x9,x10,x11,x12,x13] 123)).cell? ⟨wr.heap.size,1,none⟩=some x1 ∧
  (wr.alloc (.cells #[x0,x1,x2,x3,x4,x5,x6,x7,x8,x9,x10,x11,x12,x13] 123)).cell? ⟨wr.heap.size,2,none⟩=some x2 ∧
  (wr.alloc (.cells #[x0,x1,x2,x3,x4,x5,x6,x7,x8,x9,x10,x11,x12,x13] 123)).cell? ⟨wr.heap.size,3,none⟩=some x3 ∧
  (wr.alloc (.cells #[x0,x1,x2,x3,x4,x5,x6,x7,x8,x9,x10,x11,x12,x13] 123)).cell? ⟨wr.heap.size,4,none⟩=some x4 ∧
  (wr.alloc (.cells #[x0,x1,x2,x3,x4,x5,x6,x7,x8,x9,x10,x11,x12,x13] 123)).cell? ⟨wr.heap.size,5,none⟩=some x5 ∧
  (wr.alloc (.cells #[x0,x1,x2,x3,x4,x5,x6,x7,x8,x9,x10,x11,x12,x13] 123)).cell? ⟨wr.heap.size,6,none⟩=some x6 ∧
  (wr.alloc (.cells #[x0,x1,x2,x3,x4,x5,x6,x7,x8,x9,x10,x11,x12,x13] 123)).cell? ⟨wr.heap.size,7,none⟩=some x7 ∧
  (wr.alloc (.cells #[x0,x1,x2,x3,x4,x5,x6,x7,x8,x9,x10,x11,x12,x13] 123)).cell? ⟨wr.heap.size,8,none⟩=some x8 ∧
  (wr.alloc (.cells #[x0,x1,x2,x3,x4,x5,x6,x7,x8,x9,x10,x11,x12,x13] 123)).cell? ⟨wr.heap.size,9,none⟩=some x9 ∧
  (wr.alloc (.cells #[x0,x1,x2,x3,x4,x5,x6,x7,x8,x9,x10,x11,x12,x13] 123)).cell? ⟨wr.heap.size,10,none⟩=some x10 ∧
  (wr.alloc (.cells #[x0,x1,x2,x3,x4,x5,x6,x7,x8,x9,x10,x11,x12,x13] 123)).cell? ⟨wr.heap.size,11,none⟩=some x11 ∧
  (wr.alloc (.cells #[x0,x1,x2,x3,x4,x5,x6,x7,x8,x9,x10,x11,x12,x13] 123)).cell? ⟨wr.heap.size,12,none⟩=some x12 ∧
  (wr.alloc (.cells #[x0,x1,x2,x3,x4,x5,x6,x7,x8,x9,x10,x11,x12,x13] 123)).cell? ⟨wr.heap.size,13,none⟩=some x13:=by
 refine ⟨(Below.refl _ _).alloc (Nat.le_refl _) _,?_,?_,?_,?_,?_,?_,?_,?_,?_,?_,?_,?_,?_,?_⟩ <;> (rw [World.cell?_alloc_at _ _ _ _ rfl];rfl)
theorem keep2 {W1 w1 w2:World} {p2 p3:Addr} {x2 x3:Value} (h:Below W1.heap.size W1 w1∧w1.cell? p2=some x2∧w1.cell? p3=some x3)
  (hb:Below w1.heap.size w1 w2):Below W1.heap.size W1 w2∧w2.cell? p2=some x2∧w2.cell? p3=some x3 :=
 ⟨below_seq h.1 hb,below_cell hb h.2.1,below_cell hb h.2.2⟩
set_option maxHeartbeats 1000000 in
theorem Size_any (N:Nat):∀ (a:List St) (w:World) (v:Value),St.bulkAll a<N→N≤1048577→St.Sl w a v →
  Calls Tryd.prog 62 #[v] w fun r w'=>r = .returned (.int .i64 (St.countAll a))∧Below w.heap.size w w':=by
 induction N with
 | zero=>intro a w v h;omega
 | succ N ih =>
  intro a w v hN hle hin
  have hlen:=length_le_bulkAll a
  obtain ⟨ad,c,rfl,hrow⟩:=hin
  have HR:Hid (a=[]∨∃ b o,ad=some ⟨b,o,none⟩∧St.Row w a b o):=hrow
  clear hrow
  have IH:Hid _:=ih
  clear ih
  have hca:=St.countAll_le a
  go_enter Tryd.func62,Tryd.ntmps62
  go_wp2_with fail
  go_loopw [3,5,8] (fun x _ i wr=>∃ (j:Nat) (d:Nat),j≤a.length∧i = .int .i64 j∧x = .int .i64 d∧d+St.countAll (a.drop j)=St.countAll a∧Below w.heap.size w wr) (fun _ _ i _=>a.length - (intOf i).toNat)
  case atStart=>exact ⟨0,0,Nat.zero_le _,rfl,rfl,by simp,Below.refl _ _⟩
  case round =>
   obtain ⟨j,d,hj,rfl,rfl,hdd,hb⟩:=hrel
   by_cases hlt:j<a.length
   ·rcases HR.out with h | ⟨b,o,had,hrow⟩
    ·subst h;simp at hlt
    ·subst had
     have hbk:=bulkAll_at a j a[j] (by simp [hlt])
     have hca2:=St.countAll_at hlt
     obtain ⟨sk,sn,se,sck,sca,scb,sy,sl,hs,ek,en,ead,em,ec,ak,an,aad,am,ac,bk,bn,bad,bm,bc,yad,yc,lad,lc,c0,c1,c2,c3,c4,c5,c6,c7,c8,c9,c10,c11,c12,c13,i1,i2,i3,i4,i5⟩:=(St.Row.below hb a hrow).shape hlt
     rw [hs] at hbk hca2
     unfold St.bulk at hbk
     unfold St.count at hca2
     have hdd':Hid _:=And.intro hdd hca2
     have hd1:d+(1+St.countAll sy+St.countAll sl)≤St.countAll a:=by omega
     clear hdd hca2 hs hrow i1 i2 i3
     have HI:Hid (_∧_):=⟨i4,i5⟩
     clear i4 i5
     have HB:Hid _:=hb
     clear hb
     go_wp2_with fail
     obtain ⟨hB1,d0,d1,d2,d3,d4,d5,d6,d7,d8,d9,d10,d11,d12,d13⟩:=copy14 wr (.int .i64 sk) (.int .i64 sn) (.int .i64 ek) (.int .i64 en) (.slice ead em ec) (.int .i64 sck) (.int .i64 ak) (.int .i64 an) (.slice aad am ac) (.int .i64 bk) (.int .i64 bn) (.slice bad bm bc) (.slice yad sy.length yc) (.slice lad sl.length lc)
     clear d0 d1 d2 d3 d4 d5 d6 d7 d8 d9 d10 d11 c0 c1 c2 c3 c4 c5 c6 c7 c8 c9 c10 c11 c12 c13
     generalize wr.alloc (.cells #[.int .i64 sk,.int .i64 sn,.int .i64 ek,.int .i64 en,.slice ead em ec,.int .i64 sck,.int .i64 ak,.int .i64 an,.slice aad am ac,.int .i64 bk,.int .i64 bn,.slice bad bm bc,.slice yad sy.length yc,.slice lad sl.length lc] 123)=W1 at *
     have HB1:Hid _:=hB1
     clear hB1
     have r1:IntKind.i64.wrap ((d:Int)+1)=(d:Int)+1:=wrap_in _ (by omega)
     have r2:IntKind.i64.wrap ((d:Int)+1+(St.countAll sy:Int))=(d:Int)+1+(St.countAll sy:Int):=wrap_in _ (by omega)
     have r3:IntKind.i64.wrap ((d:Int)+1+(St.countAll sy:Int)+(St.countAll sl:Int))=(d:Int)+1+(St.countAll sy:Int)+(St.countAll sl:Int):=wrap_in _ (by omega)
     go_region_held3 (fun w'=>Below W1.heap.size W1 w'∧w'.cell? ⟨wr.heap.size,12,none⟩=some (.slice yad sy.length yc)∧w'.cell? ⟨wr.heap.size,13,none⟩=some (.slice lad sl.length lc))
      (first | assumption | exact ⟨(Below.refl _ _).drew,d12,d13⟩)
      (first
       | (go_at_call_of 62 sy.length;refine (IH.out sy _ _ (by omega) (by omega) (Sl_keep HI.out.1 HB1.out ‹Below W1.heap.size W1 _∧_›)).mono ?_;rintro e w' ⟨rfl,hb'⟩;have hS':=keep2 ‹Below W1.heap.size W1 _∧_› hb';clear hb')
       | (go_at_call_of 62 sl.length;refine (IH.out sl _ _ (by omega) (by omega) (Sl_keep HI.out.2 HB1.out ‹Below W1.heap.size W1 _∧_›)).mono ?_;rintro e w' ⟨rfl,hb'⟩;have hS':=keep2 ‹Below W1.heap.size W1 _∧_› hb';clear hb'))
     all_goals
      go_wp2_with fail
      go_roundw
      case rel =>
       have q:=hdd'.out
       refine ⟨j+1,d+1+St.countAll sy+St.countAll sl,by omega,by go_num,by go_num,by omega,?_⟩
       exact below_seq HB.out (below_seq HB1.out (And.left ‹Below W1.heap.size W1 _∧_›))
      case measure=>simp [intOf];omega
   ·go_wp2_with fail
    go_ret
    rw [List.drop_of_length_le (by omega),St.countAll] at hdd
    exact ⟨ret_int (by omega),hb⟩
set_option maxHeartbeats 400000 in
theorem claims_any (a:List St) (w:World) (v:Value) (hN:St.bulkAll a≤1048576) (hin:St.Sl w a v) :
  Calls Tryd.prog 33 #[v] w fun r w'=>r = .returned (.bool (decide (St.deepAll 0 a≤300)&&decide ((St.countAll a:Int)≤2000)))∧Below w.heap.size w w':=by
 have HI:Hid (St.Sl w a v):=hin
 clear hin
 by_cases h3:St.deepAll 0 a≤300
 ·go_enter Tryd.func33,Tryd.ntmps33
  go_wp2_with (first
   | (go_at_call 61;refine (Deep_any _ a _ _ (Nat.le_refl _) hN HI.out).mono ?_;rintro e w1 ⟨rfl,hb1⟩;have HB1:Hid _:=hb1;clear hb1)
   | (go_at_call 62;refine (Size_any _ a _ _ (Nat.lt_succ_self _) (by omega) (HI.out.below HB1.out)).mono ?_;rintro e w' ⟨rfl,hb'⟩))
  go_ret
  exact ⟨ret_bool (by rw [decide_eq_true h3];rfl),below_seq HB1.out hb'⟩
 ·go_enter Tryd.func33,Tryd.ntmps33
  go_wp2_with (first
   | (go_at_call 61;refine (Deep_any _ a _ _ (Nat.le_refl _) hN HI.out).mono ?_;rintro e w1 ⟨rfl,hb1⟩;have HB1:Hid _:=hb1;clear hb1))
  go_ret
  exact ⟨ret_bool (by rw [decide_eq_false (by omega)];rfl),HB1.out⟩
end Go.Proofs.YtnkgbkkakokciacDoor.B
