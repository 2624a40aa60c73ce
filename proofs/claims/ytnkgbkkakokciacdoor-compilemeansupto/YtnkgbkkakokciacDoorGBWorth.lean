import Derived.Test.YtnkgbkkakokciacDoorGBSize
import Derived.Deep.RegionHeld3
import Derived.Test.YtnkgbkkakokciacDoorGBNode
import Derived.Deep.RegionWith
import Derived.Deep.RegionLawGrows
namespace Go.Proofs.YtnkgbkkakokciacDoor
open Go.ChangeShapes Go.WideShapes Go.ChangeAt Go.RowKit
section
variable {P:Program} {ops:Array Oper} {Q:Exit→Act→World→Prop} {md:Region.Mode} {S:World→Prop} {L:Nat}
def shutB (md:Region.Mode) (ops:Array Oper) (l:Array Bool):Bool :=
 (List.range ops.size).all fun k=>!l.getD k false || match ops[k]? with
  | some o=>o.after.all fun e=>!Region.binds md e || l.getD e.on false
  | none=>true
def ShutP (md:Region.Mode) (ops:Array Oper) (l:Array Bool):Prop :=
 ∀ k o,ops[k]?=some o→l.getD k false=true→∀ e ∈ o.after,Region.binds md e=true→l.getD e.on false=true
theorem shut_spec {l:Array Bool} (h:shutB md ops l=true):ShutP md ops l:=fun k o hk hl e he hb=>by
 simp only [shutB,List.all_eq_true,List.mem_range] at h
 have h1:=h k (Array.getElem?_eq_some_iff.1 hk).1
 simp only [hk,hl,Bool.not_true,Bool.false_or] at h1
 have h2:=Array.all_eq_true_iff_forall_mem.1 h1 e he
 simpa [hb] using h2
theorem shut_set {l:Array Bool} {j:Nat} (h:ShutP md ops l) (hj:j ∈ Region.ready md ops l):ShutP md ops (l.setIfInBounds j true):=fun k o hk hl e he hb=>by
 by_cases hkj:j=k
 ·subst hkj
  obtain ⟨-,o',ho',hall⟩:=mem_ready.1 hj
  rw [hk] at ho';cases ho'
  exact getD_set_true (hall e he hb)
 ·rw [getD_set_ne false hkj] at hl
  exact getD_set_true (h k o hk hl e he hb)
def lastB (md:Region.Mode) (ops:Array Oper) (L:Nat):Bool :=
 L+1 == ops.size&&(List.range L).all fun i=>(List.range (L+1)).any fun j=>decide (i<j)&&match ops[j]? with
  | some o=>o.after.any fun e=>Region.binds md e&&e.on == i
  | none=>false
theorem last_spec {l:Array Bool} (hL:lastB md ops L=true) (h:ShutP md ops l) (hr:L ∈ Region.ready md ops l):∀ (d i:Nat),i<L→L - i≤d→l.getD i false=true
 | 0,i,hi,hd=>by omega
 | d+1,i,hi,hd=>by
  simp only [lastB,Bool.and_eq_true,List.all_eq_true,List.mem_range,List.any_eq_true,decide_eq_true_eq] at hL
  obtain ⟨j,hj,hij,hm⟩:=hL.2 i hi
  cases ho:ops[j]? with
  | none=>simp [ho] at hm
  | some o =>
   simp only [ho] at hm
   obtain ⟨e,he,hb⟩:=Array.any_eq_true'.1 hm
   simp only [Bool.and_eq_true,beq_iff_eq] at hb
   rw [← hb.2]
   by_cases hjL:j=L
   ·subst hjL
    obtain ⟨-,o',ho',hall⟩:=mem_ready.1 hr
    rw [ho] at ho';cases ho'
    exact hall e he hb.1
   ·exact h j o ho (last_spec (by simp only [lastB,Bool.and_eq_true,List.all_eq_true,List.mem_range,List.any_eq_true,decide_eq_true_eq];exact hL) h hr d j (by omega) (by omega)) e he hb.1
def wpAnyL (P:Program) (md:Region.Mode) (ops:Array Oper) (Q:Exit→Act→World→Prop) (S:World→Prop) (L:Nat):Nat→Array Bool→Act→World→Prop
 | 0,l,a,w=>Region.ready md ops l=[]∧Q .normal a w
 | f+1,l,a,w=>(Region.ready md ops l=[]→Q .normal a w)∧∀ i ∈ Region.ready md ops l,wpOp P ops Q i (fun a' w'=>(i≠L→S w')∧wpAnyL P md ops Q S L f (l.setIfInBounds i true) a' w') a w
theorem wpAnyL.any:∀ (f:Nat) (l:Array Bool) (a:Act) (w:World),wpAnyL P md ops Q S L f l a w→wpAny P md ops Q f l a w
 | 0,_,_,_,h=>h
 | f+1,_,_,_,h=>⟨h.1,fun i hi=>wpOp_mono (fun a' w' h'=>wpAnyL.any f _ a' w' h'.2) (h.2 i hi)⟩
theorem wpAnyL_first {i:Nat} {oi:Oper} {v:Value} (hi:ops[i]?=some oi) (hsel:∀ (j:Nat) (o:Oper) cs b,ops[j]?=some o→o.op≠.select cs b)
  (hQ:∀ c a w,Q (.panic c) (a.put oi.dst v) w→Q (.panic c) a w) (hL:lastB md ops L=true) (hiL:i<L) :
  ∀ (f:Nat) (l:Array Bool) (a:Act) (w:World),ShutP md ops l →
   (∀ j oj,ops[j]?=some oj→j≠i→l.getD j true=false→(∀ e ∈ oj.after,Region.binds md e=true→e.on≠i)→oi.apart ops oj=true) →
   i ∈ Region.ready md ops l→YieldsIf P ops S oi v a→S w →
   wpAnyL P md ops Q S L f (l.setIfInBounds i true) (a.put oi.dst v) w→wpAnyL P md ops Q S L (f+1) l a w
 | f,l,a,w=>fun hsh hfree hr hy hS H=>by
  refine ⟨fun h=>(by rw [h] at hr;cases hr),fun j hj=>?_⟩
  by_cases hji:j=i
  ·subst hji;exact hy.wpOp hi hS ⟨fun _=>hS,H⟩
  have h0:=(mem_ready.1 hr).1
  have hjL:j≠L:=fun e=>by
   subst e
   have h1:=last_spec hL hsh hj (j - i) i hiL (Nat.le_refl _)
   rcases Nat.lt_or_ge i l.size with h' | h'
   ·simp [h'] at h0 h1;rw [h0] at h1;cases h1
   ·simp [Array.getElem?_eq_none h'] at h1
  cases f with
  | zero =>
   have:=ready_mono hj hji
   rw [H.1] at this
   cases this
  | succ f =>
   obtain ⟨hjun,oj,hoj,hall⟩:=mem_ready.1 hj
   have hnot:∀ e ∈ oj.after,Region.binds md e=true→e.on≠i:=fun e he hb heq=>by
    have h1:=hall e he hb
    rw [heq] at h1
    rcases Nat.lt_or_ge i l.size with h' | h'
    ·simp [h'] at h0 h1;rw [h0] at h1;cases h1
    ·simp [Array.getElem?_eq_none h'] at h1
   refine wpOp_mono (fun a' w' h3=>?_) (wpOp_putIf hoj (hfree j oj hoj hji hjun hnot) (fun cs b=>hsel i oi cs b hi) (fun cs b=>hsel j oj cs b hoj) hQ hy (H.2 j (ready_mono hj hji)))
   refine ⟨h3.2.1,wpAnyL_first hi hsel hQ hL hiL f (l.setIfInBounds j true) a' w' (shut_set hsh hj) (fun k ok hk hki hun hno=>?_) (ready_mono hr (Ne.symm hji)) h3.1 (h3.2.1 hjL) (by rw [Array.setIfInBounds_comm _ _ hji];exact h3.2.2)⟩
   refine hfree k ok hk hki ?_ hno
   by_cases hjk:j=k
   ·subst hjk;exact hjun
   ·rw [getD_set_ne true hjk] at hun;exact hun
theorem takeL_at {i n:Nat} {oi:Oper} {v:Value} {f:Nat} {l:Array Bool} {xs:List Value} {ds:List Deferred} {w:World}
  (hi:ops[i]?=some oi) (hd:oi.dst=some n) (hs:Region.noSelect ops=true) (hL:lastB md ops L=true) (hiL:i<L) (hsh:shutB md ops l=true) (hf:Region.free md ops l i=true) (hr:(Region.ready md ops l).contains i=true)
  (hQ:∀ c a w,Q (.panic c) (a.put oi.dst v) w→Q (.panic c) a w) (hy:YieldsIf P ops S oi v ⟨xs.toArray,ds⟩) (hS:S w)
  (h:wpAnyL P md ops Q S L f (l.setIfInBounds i true) ⟨(xs.set n v).toArray,ds⟩ w):wpAnyL P md ops Q S L (f+1) l ⟨xs.toArray,ds⟩ w:=by
 refine wpAnyL_first hi (Region.noSelect_spec hs) hQ hL hiL f l _ w (shut_spec hsh) (Region.free_spec hi hf) (by simpa using hr) hy hS ?_
 have e:Act.put ⟨xs.toArray,ds⟩ oi.dst v=⟨(xs.set n v).toArray,ds⟩:=by rw [hd];simp [Act.put]
 rw [e]
 exact h
theorem wpAnyL_one {i:Nat} {o:Oper} {f:Nat} {l:Array Bool} {a:Act} {w:World} (hr:Region.ready md ops l=[i]) (ho:ops[i]?=some o)
  (h:∀ K':Act→World→Prop,Shut (∀ a w,(i≠L→S w)→wpAnyL P md ops Q S L f (l.setIfInBounds i true) a w→K' a w)→if Region.wanted o (yielded ops a.tmps)=true then Oper.wp P o a w K' Q else K' (a.put o.dst undef) w):wpAnyL P md ops Q S L (f+1) l a w :=
 ⟨(fun h0=>absurd (hr.symm.trans h0) (by simp)),fun j hj=>by
  rw [hr,List.mem_singleton] at hj
  subst hj
  exact wpOp_step ho (fun K' hK=>h K' (fun a w hS hW=>hK a w ⟨hS,hW⟩))⟩
theorem wpAnyL_done {l:Array Bool} {a:Act} {w:World} (hr:Region.ready md ops l=[]) (h:Q .normal a w):∀ f,wpAnyL P md ops Q S L f l a w
 | 0=>⟨hr,h⟩
 | _+1=>⟨fun _=>h,by rw [hr];simp⟩
theorem wp_region_last {id:Nat} {a:Act} {w:World} (hm:P.follows .mixedOrders=true)
  (h:wpAnyL P .any ops Q S L ops.size (Array.replicate ops.size false) a w.drew):(Code.region id ops true).wp P Q a w :=
 wp_region_any hm (h.any _ _ _ _)
end
end Go.Proofs.YtnkgbkkakokciacDoor
namespace Go.Proofs.YtnkgbkkakokciacDoor.B
open Go.ChangeShapes Go.WideShapes Go.ChangeAt Go.RowKit
set_option maxRecDepth 20000 in
set_option maxHeartbeats 400000 in
theorem negate_any (w0 w:World) (bb:Nat) (img:List Io) (loops:Int) (iv0:Value) (hw:BW w0 w bb img loops iv0) (hl:img.length≤900000):Calls Tryd.prog 144 #[.pointer (some ⟨bb,0,none⟩)] w fun r w'=>r = .returned (.tuple #[])∧∃ iv',BW w0 w' bb (img++[⟨1,0,0⟩,⟨1,1,0⟩,⟨5,0,0⟩,⟨6,0,0⟩]) loops iv'∧BG bb w w' iv0 iv':=by
 have HW0:Hid (BW w0 w bb img loops iv0∧BG bb w w iv0 iv0):=⟨hw,BG.refl _ _ _⟩
 clear hw
 go_enter Tryd.func144,Tryd.ntmps144
 go_wp2_with (go_at_call 122;refine (put_any w0 w bb (img) loops iv0 1 0 HW0.out.1 (by first | omega | (simp;omega))).mono ?_;rintro r w1 ⟨rfl,iv1,hw1,hg1⟩;have HW1:Hid (BW w0 w1 bb (img++[⟨1,0,0⟩]) loops iv1∧BG bb w w1 iv0 iv1):=⟨hw1,HW0.out.2.trans hg1⟩;clear hw1 hg1 HW0)
 go_wp2_with (go_at_call 122;refine (put_any w0 w1 bb (img++[⟨1,0,0⟩]) loops iv1 1 1 HW1.out.1 (by first | omega | (simp;omega))).mono ?_;rintro r w2 ⟨rfl,iv2,hw2,hg2⟩;have HW2:Hid (BW w0 w2 bb (img++[⟨1,0,0⟩]++[⟨1,1,0⟩]) loops iv2∧BG bb w w2 iv0 iv2):=⟨hw2,HW1.out.2.trans hg2⟩;clear hw2 hg2 HW1)
 go_wp2_with (go_at_call 122;refine (put_any w0 w2 bb (img++[⟨1,0,0⟩]++[⟨1,1,0⟩]) loops iv2 5 0 HW2.out.1 (by first | omega | (simp;omega))).mono ?_;rintro r w3 ⟨rfl,iv3,hw3,hg3⟩;have HW3:Hid (BW w0 w3 bb (img++[⟨1,0,0⟩]++[⟨1,1,0⟩]++[⟨5,0,0⟩]) loops iv3∧BG bb w w3 iv0 iv3):=⟨hw3,HW2.out.2.trans hg3⟩;clear hw3 hg3 HW2)
 go_wp2_with (go_at_call 122;refine (put_any w0 w3 bb (img++[⟨1,0,0⟩]++[⟨1,1,0⟩]++[⟨5,0,0⟩]) loops iv3 6 0 HW3.out.1 (by first | omega | (simp;omega))).mono ?_;rintro r w4 ⟨rfl,iv4,hw4,hg4⟩;have HW4:Hid (BW w0 w4 bb (img++[⟨1,0,0⟩]++[⟨1,1,0⟩]++[⟨5,0,0⟩]++[⟨6,0,0⟩]) loops iv4∧BG bb w w4 iv0 iv4):=⟨hw4,HW3.out.2.trans hg4⟩;clear hw4 hg4 HW3)
 go_end0
 refine ⟨rfl,_,?_,HW4.out.2⟩
 have:=HW4.out.1
 simpa using this
def EndsIn (w:World):Prop:=w.cell? ⟨3,1,none⟩=some (.int .i64 1)∧w.cell? ⟨3,2,none⟩=some (.int .i64 2)∧w.cell? ⟨3,3,none⟩=some (.int .i64 9)∧w.cell? ⟨3,5,none⟩=some (.int .i64 4)∧w.cell? ⟨3,6,none⟩=some (.int .i64 5)∧w.cell? ⟨3,7,none⟩=some (.int .i64 6)
theorem EndsIn.below {w w':World} (h:EndsIn w) (hb:Below w.heap.size w w'):EndsIn w' :=
 ⟨below_cell hb h.1,below_cell hb h.2.1,below_cell hb h.2.2.1,below_cell hb h.2.2.2.1,below_cell hb h.2.2.2.2.1,below_cell hb h.2.2.2.2.2⟩
mutual
def Ex.Lay:Ex→Prop
 | .mk k n a=>((k=1∨k=2∨k=3)∧a=[]∨(k=4∨k=5∨k=6∨k=7)∧n=0)∧Ex.LayAll a
def Ex.LayAll:List Ex→Prop
 | []=>True
 | e::r=>e.Lay∧Ex.LayAll r
end
mutual
theorem Ex.pc_len:∀ e:Ex,e.pc.length≤4*e.nodes
 | .mk k n a=>by
  have:=Ex.pcAll_len a
  rw [Ex.pc,Ex.nodes]
  split
  ·simp;omega
  split
  ·simp;omega
  split
  ·simp;omega
  ·simp;omega
theorem Ex.pcAll_len:∀ a:List Ex,(Ex.pcAll a).length≤4*Ex.nodesAll a
 | []=>Nat.zero_le _
 | e::r=>by
  have:=Ex.pc_len e
  have:=Ex.pcAll_len r
  rw [Ex.pcAll,Ex.nodesAll]
  simp;omega
end
theorem Ex.LayAll.at {a:List Ex} (h:Ex.LayAll a):∀ j (hj:j<a.length),(a[j]).Lay:=by
 induction a with
 | nil=>intro j hj;simp at hj
 | cons e r ih =>
  intro j hj
  cases j with
  | zero=>exact h.1
  | succ j=>exact ih h.2 j (by simpa using hj)
theorem Ex.pcAll_take {a:List Ex}:∀ j (hj:j<a.length),Ex.pcAll (a.take j)++(a[j]).pc=Ex.pcAll (a.take (j+1)):=by
 induction a with
 | nil=>intro j hj;simp at hj
 | cons e r ih =>
  intro j hj
  cases j with
  | zero=>simp [Ex.pcAll]
  | succ j =>
   have:=ih j (by simpa using hj)
   simp only [List.take_succ_cons,Ex.pcAll,List.getElem_cons_succ,List.append_assoc] at this ⊢
   rw [this]
theorem Ex.nodesAll_take {a:List Ex}:∀ j (hj:j<a.length),Ex.nodesAll (a.take j)+(a[j]).nodes≤Ex.nodesAll a:=by
 induction a with
 | nil=>intro j hj;simp at hj
 | cons e r ih =>
  intro j hj
  cases j with
  | zero=>simp [Ex.nodesAll]
  | succ j =>
   have:=ih j (by simpa using hj)
   simp only [List.take_succ_cons,Ex.nodesAll,List.getElem_cons_succ] at this ⊢
   omega
set_option maxRecDepth 20000 in
set_option maxHeartbeats 400000 in
theorem bexpr_any (w0:World) (bb:Nat) (loops:Int) (hE:EndsIn w0) (N:Nat):∀ (e:Ex) (w:World) (v:Value) (img:List Io) (iv:Value),e.nodes<N→N≤1048577→e.In w0 v→e.Lay→BW w0 w bb img loops iv→img.length+4*e.nodes≤800000 →
  Calls Tryd.prog 121 #[.pointer (some ⟨bb,0,none⟩),v] w fun r w'=>r = .returned (.tuple #[])∧∃ iv',BW w0 w' bb (img++e.pc) loops iv'∧BG bb w w' iv iv':=by
 induction N with
 | zero=>intro e w v img iv h;omega
 | succ N ih =>
  intro e w v img iv hN hNN hin hlay hw hlen
  rcases e with ⟨k,n,a⟩
  rw [Ex.In] at hin
  obtain ⟨ad,c,rfl,hrow⟩:=hin
  rw [Ex.nodes] at hN hlen
  rw [Ex.Lay] at hlay
  have hal:=length_le_nodesAll a
  have HR:Hid ((a=[]∨∃ b o,ad=some ⟨b,o,none⟩∧Ex.Row w0 a b o)∧EndsIn w0∧Ex.LayAll a):=⟨hrow,hE,hlay.2⟩
  have HW:Hid (BW w0 w bb img loops iv):=hw
  have IH:Hid _:=ih
  have hk:=hlay.1
  clear hrow hlay hw ih
  have HP:Hid (BW w0 (w.alloc (.cells #[.int .i64 k,.int .i64 n,.slice ad a.length c] 119)) bb img loops iv):=HW.out.below (below_new _ _)
  have x0:(w.alloc (.cells #[.int .i64 k,.int .i64 n,.slice ad a.length c] 119)).heap[w.heap.size]?=some (.cells #[.int .i64 k,.int .i64 n,.slice ad a.length c] 119 (0,0)):=heap_alloc_new _ _
  have hbw:=HW.out.cells.2.2.2
  go_enter Tryd.func121,Tryd.ntmps121
  go_wp2_with fail
  obtain ⟨W1,hW1⟩:∃ W1,w.alloc (.cells #[.int .i64 k,.int .i64 n,.slice ad a.length c] 119)=W1:=⟨_,rfl⟩
  rw [hW1] at HP x0 ⊢
  have HB1:Hid (BG bb w W1 iv iv):=by rw [← hW1];exact BG.of_below (below_new _ _)
  have HX:Hid (W1.heap[w.heap.size]?=some (.cells #[.int .i64 k,.int .i64 n,.slice ad a.length c] 119 (0,0))∧w.heap.size≠bb∧iv.ownBlock≠some w.heap.size):=⟨x0,by omega,fun e=>by have:=(HW.out.own.lt _ e).2;omega⟩
  clear hW1 x0
  go_loopw [9] (fun i wr=>∃ (j:Nat) (iv':Value),j≤a.length∧i = .int .i64 j∧BW w0 wr bb (img++Ex.pcAll (a.take j)) loops iv'∧BG bb W1 wr iv iv') (fun i _=>a.length - (intOf i).toNat)
  case atStart=>exact ⟨0,iv,Nat.zero_le _,rfl,by simpa [Ex.pcAll] using HP.out,BG.refl _ _ _⟩
  case round =>
   obtain ⟨j,iv1,hj,rfl,hw1,hg1⟩:=hrel
   have H1:Hid (BW w0 wr bb (img++Ex.pcAll (a.take j)) loops iv1∧BG bb W1 wr iv iv1):=⟨hw1,hg1⟩
   by_cases hjl:j<a.length
   ·have hji:(j:Int)<(a.length:Int):=by omega
    rcases HR.out.1 with h | ⟨b,o,rfl,hrow⟩
    ·rw [h] at hjl;simp at hjl
    obtain ⟨ek,en,ead,em,ec,r0,r1,r2,hin⟩:=hrow.shape hjl
    have r0':=below_cell hw1.bel r0
    have r1':=below_cell hw1.bel r1
    have r2':=below_cell hw1.bel r2
    have lb:b<wr.heap.size:=World.block_lt_of_cell? _ _ r0'
    have hnt:=Ex.nodesAll_take j hjl
    have hp1:=Ex.pcAll_len (a.take j)
    have HC:=IH.out a[j] (wr.alloc (.cells #[.int .i64 ek,.int .i64 en,.slice ead em ec] 119)) _ (img++Ex.pcAll (a.take j)) iv1 (by have:=hnt;omega) (by omega) hin (HR.out.2.2.at j hjl) (hw1.below (below_new _ _)) (by simp;omega)
    clear r0 r1 r2 hrow hw1 hg1 hin
    go_wp2_with (go_at_call 121;refine HC.mono ?_;rintro r w2 ⟨rfl,iv2,hw2,hg2⟩;have H2:Hid (BW w0 w2 bb (img++Ex.pcAll (a.take j)++(a[j]).pc) loops iv2∧BG bb W1 w2 iv iv2):=⟨hw2,(H1.out.2.trans (BG.of_below (below_new _ _))).trans hg2⟩;clear hw2 hg2 HC)
    have hq:=H2.out.1
    rw [List.append_assoc,Ex.pcAll_take j hjl] at hq
    exact ⟨⟨j+1,iv2,by omega,by simp,hq,H2.out.2⟩,by simp [intOf];omega⟩
   ·have hje:j=a.length:=by omega
    subst hje
    rw [List.take_length] at H1
    have hblk:=(H1.out.2.oth w.heap.size (Array.getElem?_eq_some_iff.1 HX.out.1).1 HX.out.2.1 HX.out.2.2).trans HX.out.1
    obtain ⟨d1,e1,l1⟩:=cells_of (l:=[_,_,_]) hblk
    have d10:=d1 0 _ rfl
    have d11:=d1 1 _ rfl
    have d12:=d1 2 _ rfl
    have hpl:=Ex.pcAll_len a
    have hbel:=hw1.bel
    have hE1:=HR.out.2.1.below hbel
    clear hw1 hg1 d1 e1 hblk hbel
    by_cases h4:k=4
    ·subst h4
     have HC:=negate_any w0 wr bb (img++Ex.pcAll a) loops iv1 H1.out.1 (by simp;omega)
     go_wp2_with (go_at_call 144;refine HC.mono ?_;rintro r w2 ⟨rfl,iv2,hw2,hg2⟩;have H2:Hid (BW w0 w2 bb (img++Ex.pcAll a++[⟨1,0,0⟩,⟨1,1,0⟩,⟨5,0,0⟩,⟨6,0,0⟩]) loops iv2∧BG bb w w2 iv iv2):=⟨hw2,(HB1.out.trans H1.out.2).trans hg2⟩;clear hw2 hg2 HC)
     refine bodyPost_ret (results_none rfl _ _ _) rfl ?_
     refine ⟨rfl,iv2,?_,H2.out.2⟩
     have hq:=H2.out.1
     rw [List.append_assoc] at hq
     simpa [Ex.pc] using hq
    ·obtain ⟨op,hop,hc3,hpc⟩:∃ op:Int,(∀ m:Nat,k=m→wr.cell? ⟨3,m,none⟩=some (.int .i64 op))∧(1≤k∧k≤7)∧(Ex.mk k n a).pc=Ex.pcAll a++[⟨op,n,0⟩]:=by
      obtain ⟨t1,t2,t3,t5,t6,t7⟩:=hE1
      rcases hk with ⟨h | h | h,rfl⟩ | ⟨h | h | h | h,rfl⟩
      ·subst h;exact ⟨1,fun m hm=>by rw [show m=1 by omega];exact t1,by omega,by simp [Ex.pc,Ex.pcAll]⟩
      ·subst h;exact ⟨2,fun m hm=>by rw [show m=2 by omega];exact t2,by omega,by simp [Ex.pc,Ex.pcAll]⟩
      ·subst h;exact ⟨9,fun m hm=>by rw [show m=3 by omega];exact t3,by omega,by simp [Ex.pc,Ex.pcAll]⟩
      ·exact absurd h h4
      ·subst h;exact ⟨4,fun m hm=>by rw [show m=5 by omega];exact t5,by omega,by simp [Ex.pc]⟩
      ·subst h;exact ⟨5,fun m hm=>by rw [show m=6 by omega];exact t6,by omega,by simp [Ex.pc]⟩
      ·subst h;exact ⟨6,fun m hm=>by rw [show m=7 by omega];exact t7,by omega,by simp [Ex.pc]⟩
     obtain ⟨m,rfl⟩:∃ m:Nat,k=m:=⟨k.toNat,by omega⟩
     have ho:=hop m rfl
     have hm1:(m:Int)<8:=by omega
     have hkb:((m:Int) == 4)=false:=by simpa using h4
     have HPC:Hid ((Ex.mk (m:Int) n a).pc=Ex.pcAll a++[⟨op,n,0⟩]):=hpc
     have HC:=fun W (hW:Below wr.heap.size wr W)=>put_any w0 W bb (img++Ex.pcAll a) loops iv1 op n (H1.out.1.below hW) (by simp;omega)
     have HC2:Hid _:=HC
     clear HC hE1 hk hop hpc
     go_wp2_with fail
     refine wp_region_noPanic ?_
     refine wp_region_last (S:=fun w'=>w'=wr.drew) (L:=7) (by kernel_rfl) ?_
     refine takeL_at (i:=0) (n:=22) (v:=?_) rfl rfl (by kernel_rfl) (by kernel_rfl) (by decide) (by kernel_rfl) (by kernel_rfl) (by kernel_rfl) (fun _ _ _ h=>h) (Or.inl ⟨by rfl,?_⟩) (by first | rfl | assumption) ?_
     rotate_left 1
     ·intro wz hSw
      subst hSw
      first | (go_simp;done) | (go_simp;with_reducible rfl)
     simp only [List.set_cons_zero,List.set_cons_succ]
     refine takeL_at (i:=1) (n:=23) (v:=?_) rfl rfl (by kernel_rfl) (by kernel_rfl) (by decide) (by kernel_rfl) (by kernel_rfl) (by kernel_rfl) (fun _ _ _ h=>h) (Or.inl ⟨by rfl,?_⟩) (by first | rfl | assumption) ?_
     rotate_left 1
     ·intro wz hSw
      subst hSw
      first | (go_simp;done) | (go_simp;with_reducible rfl)
     simp only [List.set_cons_zero,List.set_cons_succ]
     refine takeL_at (i:=2) (n:=24) (v:=?_) rfl rfl (by kernel_rfl) (by kernel_rfl) (by decide) (by kernel_rfl) (by kernel_rfl) (by kernel_rfl) (fun _ _ _ h=>h) (Or.inl ⟨by rfl,?_⟩) (by first | rfl | assumption) ?_
     rotate_left 1
     ·intro wz hSw
      subst hSw
      first | (go_simp;done) | (go_simp;with_reducible rfl)
     simp only [List.set_cons_zero,List.set_cons_succ]
     refine takeL_at (i:=3) (n:=25) (v:=?_) rfl rfl (by kernel_rfl) (by kernel_rfl) (by decide) (by kernel_rfl) (by kernel_rfl) (by kernel_rfl) (fun _ _ _ h=>h) (Or.inl ⟨by rfl,?_⟩) (by first | rfl | assumption) ?_
     rotate_left 1
     ·intro wz hSw
      subst hSw
      first | (go_simp;done) | (go_simp;with_reducible rfl)
     simp only [List.set_cons_zero,List.set_cons_succ]
     refine takeL_at (i:=4) (n:=26) (v:=?_) rfl rfl (by kernel_rfl) (by kernel_rfl) (by decide) (by kernel_rfl) (by kernel_rfl) (by kernel_rfl) (fun _ _ _ h=>h) (Or.inl ⟨by rfl,?_⟩) (by first | rfl | assumption) ?_
     rotate_left 1
     ·intro wz hSw
      subst hSw
      first | (go_simp;done) | (go_simp;with_reducible rfl)
     simp only [List.set_cons_zero,List.set_cons_succ]
     refine takeL_at (i:=5) (n:=27) (v:=?_) rfl rfl (by kernel_rfl) (by kernel_rfl) (by decide) (by kernel_rfl) (by kernel_rfl) (by kernel_rfl) (fun _ _ _ h=>h) (Or.inl ⟨by rfl,?_⟩) (by first | rfl | assumption) ?_
     rotate_left 1
     ·intro wz hSw
      subst hSw
      first | (go_simp;done) | (go_simp;with_reducible rfl)
     simp only [List.set_cons_zero,List.set_cons_succ]
     refine takeL_at (i:=6) (n:=28) (v:=?_) rfl rfl (by kernel_rfl) (by kernel_rfl) (by decide) (by kernel_rfl) (by kernel_rfl) (by kernel_rfl) (fun _ _ _ h=>h) (Or.inl ⟨by rfl,?_⟩) (by first | rfl | assumption) ?_
     rotate_left 1
     ·intro wz hSw
      subst hSw
      first | (go_simp;done) | (go_simp;with_reducible rfl)
     simp only [List.set_cons_zero,List.set_cons_succ]
     refine wpAnyL_one (i:=7) (by kernel_rfl) rfl (fun K' hK'=>?_)
     go_simp
     refine (HC2.out _ ((Below.refl _ _).drew)).mono ?_
     rintro r w2 ⟨rfl,iv2,hw2,hg2⟩
     refine hK'.out _ _ (fun h=>absurd rfl h) ?_
     clear hK' K'
     refine wpAnyL_done (by kernel_rfl) ?_ _
     refine NoPanic.normal ?_
     have H2:Hid (BW w0 w2 bb (img++Ex.pcAll a++[⟨op,n,0⟩]) loops iv2∧BG bb w w2 iv iv2):=⟨hw2,(HB1.out.trans H1.out.2).trans ((BG.of_below (Below.refl _ _).drew).trans hg2)⟩
     clear hw2 hg2
     go_wp2_with fail
     go_end0
     refine ⟨rfl,iv2,?_,H2.out.2⟩
     have hq:=H2.out.1
     rw [List.append_assoc,← HPC.out] at hq
     exact hq
structure LpAt (w:World) (bb:Nat) (iv:Value) (q p at_:Nat):Prop where
 c0:w.cell? ⟨q,0,none⟩=some (.pointer (some ⟨bb,0,none⟩))
 c1:w.cell? ⟨p,0,none⟩=some (.int .i64 at_)
 n0:q≠bb∧p≠bb
 n1:iv.ownBlock≠some q∧iv.ownBlock≠some p
theorem BG.cell {bb:Nat} {w w':World} {v v':Value} (h:BG bb w w' v v') {q o:Nat} {x:Value} (h1:q≠bb) (h2:v.ownBlock≠some q) (hc:w.cell? ⟨q,o,none⟩=some x):w'.cell? ⟨q,o,none⟩=some x:=by
 have e:=h.oth q (World.block_lt_of_cell? _ _ hc) h1 h2
 unfold World.cell? at hc ⊢
 dsimp only at hc ⊢
 rw [e]
 exact hc
theorem BG.apart {bb:Nat} {w w':World} {v v':Value} (h:BG bb w w' v v') {q:Nat} (hq:q<w.heap.size) (h2:v.ownBlock≠some q):v'.ownBlock≠some q:=by
 rcases h.own with ho | ho
 ·rw [ho];exact h2
 ·intro e;have:=ho q e;omega
theorem LpAt.go {bb:Nat} {w w':World} {v v':Value} {q p at_:Nat} (h:LpAt w bb v q p at_) (hg:BG bb w w' v v'):LpAt w' bb v' q p at_ :=
 ⟨hg.cell h.n0.1 h.n1.1 h.c0,hg.cell h.n0.2 h.n1.2 h.c1,h.n0,hg.apart (World.block_lt_of_cell? _ _ h.c0) h.n1.1,hg.apart (World.block_lt_of_cell? _ _ h.c1) h.n1.2⟩
set_option maxRecDepth 20000 in
set_option maxHeartbeats 400000 in
theorem leap_any (w0 w:World) (bb:Nat) (img:List Io) (loops:Int) (iv:Value) (op:Int) (hw:BW w0 w bb img loops iv) (hl:img.length≤900000):Calls Tryd.prog 146 #[.pointer (some ⟨bb,0,none⟩),.int .i64 op] w fun r w'=>∃ q p iv',r = .returned (.func (Fn.func 158) #[] #[.pointer (some ⟨q,0,none⟩),.pointer (some ⟨p,0,none⟩)])∧LpAt w' bb iv' q p img.length∧BW w0 w' bb (img++[⟨op,0,0⟩]) loops iv'∧BG bb w w' iv iv':=by
 obtain ⟨ad,c,rfl⟩:=hw.shape
 obtain ⟨c0,c1,fz,hlt⟩:=hw.cells
 have HW:Hid (BW w0 w bb img loops (.slice ad img.length c)):=hw
 clear hw fz
 have hb1:Below w.heap.size w ((w.alloc (.cells #[.pointer (some ⟨bb,0,none⟩)] 163)).alloc (.cells #[.int .i64 img.length] 3)):=((Below.refl _ _).alloc (Nat.le_refl _) _).alloc (by simp) _
 have x0:((w.alloc (.cells #[.pointer (some ⟨bb,0,none⟩)] 163)).alloc (.cells #[.int .i64 img.length] 3)).cell? ⟨w.heap.size,0,none⟩=some (.pointer (some ⟨bb,0,none⟩)):=by go_simp
 have x1:((w.alloc (.cells #[.pointer (some ⟨bb,0,none⟩)] 163)).alloc (.cells #[.int .i64 img.length] 3)).cell? ⟨w.heap.size+1,0,none⟩=some (.int .i64 img.length):=by go_simp
 have hL:LpAt ((w.alloc (.cells #[.pointer (some ⟨bb,0,none⟩)] 163)).alloc (.cells #[.int .i64 img.length] 3)) bb (.slice ad img.length c) w.heap.size (w.heap.size+1) img.length:=⟨x0,x1,⟨by omega,by omega⟩,fun e=>by have:=(HW.out.own.lt _ e).2;omega,fun e=>by have:=(HW.out.own.lt _ e).2;omega⟩
 have HB1:Hid (_∧LpAt ((w.alloc (.cells #[.pointer (some ⟨bb,0,none⟩)] 163)).alloc (.cells #[.int .i64 img.length] 3)) bb (.slice ad img.length c) w.heap.size (w.heap.size+1) img.length):=⟨hb1,hL⟩
 have HC:=put_any w0 _ bb img loops _ op 0 (HW.out.below hb1) (by omega)
 clear hb1 x0 x1 hL
 go_enter Tryd.func146,Tryd.ntmps146
 go_wp2_with (go_at_call 122;refine HC.mono ?_;rintro r w2 ⟨rfl,iv2,hw2,hg2⟩;have H2:Hid (BW w0 w2 bb (img++[⟨op,0,0⟩]) loops iv2∧BG bb w w2 (.slice ad img.length c) iv2∧LpAt w2 bb iv2 w.heap.size (w.heap.size+1) img.length):=⟨hw2,(BG.of_below HB1.out.1).trans hg2,HB1.out.2.go hg2⟩;clear hw2 hg2 HC)
 go_ret
 exact ⟨_,_,iv2,rfl,H2.out.2.2,H2.out.1,H2.out.2.1⟩
theorem insVs_set:∀ (l:List Io) (j:Nat) (z:Int),j<l.length→(insVs l).set (j*3+1) (.int .i64 z)=insVs (l.set j ⟨(l.getD j ⟨0,0,0⟩).op,z,(l.getD j ⟨0,0,0⟩).b⟩)
 | [],j,z,h=>by simp at h
 | x::t,0,z,_=>by simp [insVs]
 | x::t,j+1,z,h=>by
  have:=insVs_set t j z (by simpa using h)
  rw [show (j+1)*3+1=(j*3+1)+1+1+1 by omega]
  simp only [insVs,List.set_cons_succ,this]
  simp
theorem insVs_at:∀ (l:List Io) (j:Nat),j<l.length→(insVs l)[j*3+1]?=some (.int .i64 (l.getD j ⟨0,0,0⟩).a)
 | [],j,h=>by simp at h
 | x::t,0,_=>by simp [insVs]
 | x::t,j+1,h=>by
  have:=insVs_at t j (by simpa using h)
  rw [show (j+1)*3+1=(j*3+1)+1+1+1 by omega]
  simpa [insVs] using this
theorem BW.land {w0 w:World} {bb:Nat} {img:List Io} {loops:Int} {g c:Nat} (h:BW w0 w bb img loops (.slice (some ⟨g,0,none⟩) img.length c)) {j:Nat} (hj:j<img.length) (z:Int) :
  w.cell? ⟨g,j*3+1,none⟩=some (.int .i64 (img.getD j ⟨0,0,0⟩).a)∧w.frozen? ⟨g,j*3+1,none⟩=false∧BW w0 (w.setCell ⟨g,j*3+1,none⟩ (.int .i64 z)) bb (img.set j ⟨(img.getD j ⟨0,0,0⟩).op,z,(img.getD j ⟨0,0,0⟩).b⟩) loops (.slice (some ⟨g,0,none⟩) img.length c)∧BG bb w (w.setCell ⟨g,j*3+1,none⟩ (.int .i64 z)) (.slice (some ⟨g,0,none⟩) img.length c) (.slice (some ⟨g,0,none⟩) img.length c):=by
 have hold:=h.old
 obtain ⟨hl,⟨h1,h2⟩ | ⟨g',cap,cur,h1,hB,hg,hn,hm,hs,ht⟩⟩:=h.own
 ·cases h1
 cases h1
 have hjc:j*3+1<cur.size:=by rw [hs];omega
 have hin:cur[j*3+1]?=some (.int .i64 (img.getD j ⟨0,0,0⟩).a):=by
  have e:=insVs_at img j hj
  rw [← ht,List.getElem?_take_of_lt (by omega)] at e
  simpa using e
 refine ⟨?_,?_,⟨?_,h.old,?_,?_⟩,?_⟩
 ·unfold World.cell?
  rw [hg]
  simpa using hin
 ·unfold World.frozen?
  rw [hg]
  simp
 ·exact h.bel.setCell (by show w0.heap.size≤g;omega) _
 ·exact (Below.heap_setCell _ _ _ _ (by show bb≠g;omega)).trans h.blk
 ·rw [show (img.set j ⟨(img.getD j ⟨0,0,0⟩).op,z,(img.getD j ⟨0,0,0⟩).b⟩).length=img.length by simp]
  refine ⟨by rw [insVs_len];simp,.inr ⟨g,c,cur.setIfInBounds (j*3+1) (.int .i64 z),rfl,hB,setCell_at hg,by simpa using hn,hm,by simpa using hs,?_⟩⟩
  rw [← insVs_set img j z hj,← ht]
  simp [List.take_set]
 ·exact ⟨rfl,rfl,rfl,by simp,fun k _ _ h3=>Below.heap_setCell _ _ _ _ (fun e=>h3 (by rw [e];rfl)),.inl rfl⟩
set_option maxRecDepth 20000 in
set_option maxHeartbeats 400000 in
theorem land_any (w0 w:World) (bb:Nat) (img:List Io) (loops:Int) (iv:Value) (q p at_:Nat) (hw:BW w0 w bb img loops iv) (hp:LpAt w bb iv q p at_) (ha:at_<img.length):Calls Tryd.prog 158 #[.pointer (some ⟨q,0,none⟩),.pointer (some ⟨p,0,none⟩)] w fun r w'=>r = .returned (.tuple #[])∧BW w0 w' bb (img.set at_ ⟨(img.getD at_ ⟨0,0,0⟩).op,img.length,(img.getD at_ ⟨0,0,0⟩).b⟩) loops iv∧BG bb w w' iv iv:=by
 obtain ⟨g,c,rfl⟩:∃ g c,iv = .slice (some ⟨g,0,none⟩) img.length c:=by
  obtain ⟨hlen,⟨h1,h2⟩ | ⟨g',cap,cur,h1,-⟩⟩:=hw.own
  ·omega
  ·exact ⟨g',cap,h1⟩
 obtain ⟨c0,c1,fz,hlt⟩:=hw.cells
 obtain ⟨x0,x1,-,-⟩:=hp
 obtain ⟨y1,y2,y3,y4⟩:=hw.land ha (img.length:Int)
 have HY:Hid (_∧_):=⟨y3,y4⟩
 have hai:(at_:Int)<(img.length:Int):=by omega
 have lq:q<w.heap.size:=World.block_lt_of_cell? _ _ x0
 have lp:p<w.heap.size:=World.block_lt_of_cell? _ _ x1
 have lg:g<w.heap.size:=World.block_lt_of_cell? _ _ y1
 clear hw fz y3 y4
 go_enter Tryd.func158,Tryd.ntmps158
 go_region
 all_goals
  go_end0
  exact ⟨rfl,HY.out.1.below (Below.refl _ _).drew,HY.out.2.trans (BG.of_below (Below.refl _ _).drew)⟩
def CompsIn (w:World):Prop:=∀ m:Nat,1≤m→m≤4→w.cell? ⟨4,m*2,none⟩=some (.int .i64 (if m=2∨m=3 then 8 else 7))∧w.cell? ⟨4,m*2+1,none⟩=some (.bool (decide (3≤m)))
theorem CompsIn.below {w w':World} (h:CompsIn w) (hb:Below w.heap.size w w'):CompsIn w':=fun m h1 h2=>⟨below_cell hb (h m h1 h2).1,below_cell hb (h m h1 h2).2⟩
theorem cdP_len (ck:Int) (ca cb:Ex):(cdP ck ca cb).length≤4*(ca.nodes+cb.nodes)+3:=by
 have:=Ex.pc_len ca
 have:=Ex.pc_len cb
 unfold cdP
 rw [List.length_append,List.length_append,List.length_append]
 by_cases h:3≤ck
 ·rw [if_pos h];simp;omega
 ·rw [if_neg h];simp;omega
set_option maxRecDepth 20000 in
set_option maxHeartbeats 400000 in
theorem bcond_any (w0 w:World) (bb:Nat) (img:List Io) (loops:Int) (iv:Value) (ck:Int) (ca cb:Ex) (ak an bk bn:Int) (aad bad:Option Addr) (am ac bm bc:Nat) (hE:EndsIn w0) (hK:CompsIn w0) (hck:1≤ck∧ck≤4) (ha:ca.In w0 (.agg #[.int .i64 ak,.int .i64 an,.slice aad am ac])) (hb:cb.In w0 (.agg #[.int .i64 bk,.int .i64 bn,.slice bad bm bc])) (hla:ca.Lay) (hlb:cb.Lay) (hna:ca.nodes≤1048576) (hnb:cb.nodes≤1048576) (hw:BW w0 w bb img loops iv) (hl:img.length+4*(ca.nodes+cb.nodes)+10≤700000) :
  Calls Tryd.prog 145 #[.pointer (some ⟨bb,0,none⟩),.agg #[.int .i64 ck,.int .i64 ak,.int .i64 an,.slice aad am ac,.int .i64 bk,.int .i64 bn,.slice bad bm bc]] w fun r w'=>∃ q p iv',r = .returned (.func (Fn.func 158) #[] #[.pointer (some ⟨q,0,none⟩),.pointer (some ⟨p,0,none⟩)])∧LpAt w' bb iv' q p (img++cdP ck ca cb).length∧BW w0 w' bb (img++cdP ck ca cb++[⟨12,0,0⟩]) loops iv'∧BG bb w w' iv iv':=by
 obtain ⟨m,rfl⟩:∃ m:Nat,ck=m:=⟨ck.toNat,by omega⟩
 obtain ⟨k1,k2⟩:=hK m (by omega) (by omega)
 obtain ⟨op,hop⟩:∃ op:Int,(if m=2∨m=3 then (8:Int) else 7)=op:=⟨_,rfl⟩
 obtain ⟨ob,hob⟩:∃ ob:Bool,decide (3≤m)=ob:=⟨_,rfl⟩
 rw [hop] at k1
 rw [hob] at k2
 have HOP:Hid ((if (m:Int)=2∨(m:Int)=3 then (8:Int) else 7)=op):=by
  show _=_
  rw [← hop]
  congr 1
  apply propext
  omega
 have HOB:Hid (decide (3≤m)=ob):=hob
 clear hop hob
 have hpa:=Ex.pc_len ca
 have hpb:=Ex.pc_len cb
 have hmi:(m:Int)<5:=by omega
 have hlt:=hw.cells.2.2.2
 have hB1:=below_new w (.cells #[.int .i64 m,.int .i64 ak,.int .i64 an,.slice aad am ac,.int .i64 bk,.int .i64 bn,.slice bad bm bc] 121)
 have x0:=heap_alloc_new w (.cells #[.int .i64 m,.int .i64 ak,.int .i64 an,.slice aad am ac,.int .i64 bk,.int .i64 bn,.slice bad bm bc] 121)
 have HW:Hid (BW w0 w bb img loops iv):=hw
 have hn0:w.heap.size≠bb:=by omega
 have hn1:iv.ownBlock≠some w.heap.size:=fun e=>by have:=(hw.own.lt _ e).2;omega
 have HC1:=bexpr_any w0 bb loops hE 1048577 ca _ _ img iv (by omega) (by omega) ha hla (hw.below hB1) (by omega)
 have HI:Hid (cb.In w0 (.agg #[.int .i64 bk,.int .i64 bn,.slice bad bm bc])∧cb.Lay∧EndsIn w0):=⟨hb,hlb,hE⟩
 obtain ⟨W1,hW1⟩:∃ W1,w.alloc (.cells #[.int .i64 m,.int .i64 ak,.int .i64 an,.slice aad am ac,.int .i64 bk,.int .i64 bn,.slice bad bm bc] 121)=W1:=⟨_,rfl⟩
 have HB1:Hid (BG bb w W1 iv iv∧W1.heap[w.heap.size]?=some (.cells #[.int .i64 m,.int .i64 ak,.int .i64 an,.slice aad am ac,.int .i64 bk,.int .i64 bn,.slice bad bm bc] 121 (0,0))∧w.heap.size<W1.heap.size):=by rw [← hW1];exact ⟨BG.of_below hB1,x0,by simp⟩
 have HWE:Hid (w.alloc (.cells #[.int .i64 m,.int .i64 ak,.int .i64 an,.slice aad am ac,.int .i64 bk,.int .i64 bn,.slice bad bm bc] 121)=W1):=hW1
 clear hB1 x0 hw ha hb hla hlb hE hW1
 go_enter Tryd.func145,Tryd.ntmps145
 go_wp2_with (go_at_call 121;refine HC1.mono ?_;rintro r w2 ⟨rfl,iv2,hw2,hg2⟩;rw [HWE.out] at hg2;have hk2:=(hg2.oth w.heap.size HB1.out.2.2 hn0 hn1).trans HB1.out.2.1;obtain ⟨d1,e1,l1⟩:=cells_of (l:=[_,_,_,_,_,_,_]) hk2;have d0:=d1 0 _ rfl;have d4:=d1 4 _ rfl;have d5:=d1 5 _ rfl;have d6:=d1 6 _ rfl;have hn2:=hg2.apart HB1.out.2.2 hn1;have H2:Hid (BW w0 w2 bb (img++ca.pc) loops iv2∧BG bb w w2 iv iv2∧w2.heap[w.heap.size]?=some (.cells #[.int .i64 m,.int .i64 ak,.int .i64 an,.slice aad am ac,.int .i64 bk,.int .i64 bn,.slice bad bm bc] 121 (0,0))):=⟨hw2,HB1.out.1.trans hg2,hk2⟩;have HC2:=bexpr_any w0 bb loops HI.out.2.2 1048577 cb w2 _ (img++ca.pc) iv2 (by omega) (by omega) HI.out.1 HI.out.2.1 hw2 (by simp;omega);clear hw2 hg2 HC1 d1 e1 hk2)
 go_wp2_with (go_at_call 121;refine HC2.mono ?_;rintro r w3 ⟨rfl,iv3,hw3,hg3⟩;have hk3:=(hg3.oth w.heap.size l1 hn0 hn2).trans H2.out.2.2;obtain ⟨d1,e1,l3⟩:=cells_of (l:=[_,_,_,_,_,_,_]) hk3;have d0:=d1 0 _ rfl;have hn3:=hg3.apart l1 hn2;have k1':=below_cell hw3.bel k1;have k2':=below_cell hw3.bel k2;have H3:Hid (BW w0 w3 bb (img++ca.pc++cb.pc) loops iv3∧BG bb w w3 iv iv3∧w3.heap[w.heap.size]?=some (.cells #[.int .i64 m,.int .i64 ak,.int .i64 an,.slice aad am ac,.int .i64 bk,.int .i64 bn,.slice bad bm bc] 121 (0,0))):=⟨hw3,H2.out.2.1.trans hg3,hk3⟩;have HC3:=put_any w0 w3 bb (img++ca.pc++cb.pc) loops iv3 op 0 hw3 (by simp;omega);clear hw3 hg3 HC2 d1 e1 hk3 d4 d5 d6)
 rcases ob with _ | _
 rotate_left 1
 ·have h3:3≤m:=by have:=HOB.out;simpa using this
  go_wp2_with (go_at_call 122;refine HC3.mono ?_;rintro r w4 ⟨rfl,iv4,hw4,hg4⟩;have hk4:=(hg4.oth w.heap.size l3 hn0 hn3).trans H3.out.2.2;obtain ⟨d1,e1,l4⟩:=cells_of (l:=[_,_,_,_,_,_,_]) hk4;have d0:=d1 0 _ rfl;have k2':=below_cell hw4.bel k2;have H4:Hid (BW w0 w4 bb (img++ca.pc++cb.pc++[⟨op,0,0⟩]) loops iv4∧BG bb w w4 iv iv4):=⟨hw4,H3.out.2.1.trans hg4⟩;clear hw4 hg4 HC3 d1 e1 hk4)
  have HC4:=put_any w0 w4 bb _ loops iv4 1 0 H4.out.1 (by simp;omega)
  go_wp2_with (go_at_call 122;refine HC4.mono ?_;rintro r w5 ⟨rfl,iv5,hw5,hg5⟩;have H5:Hid (_∧BG bb w w5 iv iv5):=⟨hw5,H4.out.2.trans hg5⟩;have HC5:=put_any w0 w5 bb _ loops iv5 8 0 hw5 (by simp;omega);clear hw5 hg5 HC4)
  go_wp2_with (go_at_call 122;refine HC5.mono ?_;rintro r w6 ⟨rfl,iv6,hw6,hg6⟩;have H6:Hid (_∧BG bb w w6 iv iv6):=⟨hw6,H5.out.2.trans hg6⟩;have HC6:=leap_any w0 w6 bb _ loops iv6 12 hw6 (by simp;omega);clear hw6 hg6 HC5)
  go_wp2_with (go_at_call 146;refine HC6.mono ?_;rintro r w7 ⟨q,p,iv7,rfl,hp7,hw7,hg7⟩;have H7:Hid (_∧_∧BG bb w w7 iv iv7):=⟨hp7,hw7,H6.out.2.trans hg7⟩;clear hp7 hw7 hg7 HC6)
  go_ret
  have e:img++ca.pc++cb.pc++[⟨op,0,0⟩]++[⟨1,0,0⟩]++[⟨8,0,0⟩]=img++cdP m ca cb:=by
   unfold cdP
   rw [if_pos (show (3:Int)≤(m:Int) by omega)]
   rw [HOP.out]
   simp
  have h7:=H7.out
  rw [e] at h7
  exact ⟨q,p,iv7,rfl,h7.1,h7.2.1,h7.2.2⟩
 ·have h3:¬ 3≤m:=by have:=HOB.out;simpa using this
  go_wp2_with (go_at_call 122;refine HC3.mono ?_;rintro r w4 ⟨rfl,iv4,hw4,hg4⟩;have hk4:=(hg4.oth w.heap.size l3 hn0 hn3).trans H3.out.2.2;obtain ⟨d1,e1,l4⟩:=cells_of (l:=[_,_,_,_,_,_,_]) hk4;have d0:=d1 0 _ rfl;have k2':=below_cell hw4.bel k2;have H4:Hid (BW w0 w4 bb (img++ca.pc++cb.pc++[⟨op,0,0⟩]) loops iv4∧BG bb w w4 iv iv4):=⟨hw4,H3.out.2.1.trans hg4⟩;clear hw4 hg4 HC3 d1 e1 hk4)
  have HC6:=leap_any w0 w4 bb _ loops iv4 12 H4.out.1 (by simp;omega)
  go_wp2_with (go_at_call 146;refine HC6.mono ?_;rintro r w7 ⟨q,p,iv7,rfl,hp7,hw7,hg7⟩;have H7:Hid (_∧_∧BG bb w w7 iv iv7):=⟨hp7,hw7,H4.out.2.trans hg7⟩;clear hp7 hw7 hg7 HC6)
  go_ret
  have e:img++ca.pc++cb.pc++[⟨op,0,0⟩]=img++cdP m ca cb:=by
   unfold cdP
   rw [if_neg (show ¬ (3:Int)≤(m:Int) by omega)]
   rw [HOP.out]
   simp
  have h7:=H7.out
  rw [e] at h7
  exact ⟨q,p,iv7,rfl,h7.1,h7.2.1,h7.2.2⟩
mutual
def St.Lay:St→Prop
 | .mk k n e ck ca cb y l=>(1≤k∧k≤7)∧((k=1∨k=2)→e.Lay)∧((k=3∨k=5)→(1≤ck∧ck≤4)∧ca.Lay∧cb.Lay)∧((k=4∨k=5)→0≤n∧n≤1000)∧St.LayAll y∧St.LayAll l
def St.LayAll:List St→Prop
 | []=>True
 | s::r=>s.Lay∧St.LayAll r
end
theorem St.LayAll.at {a:List St} (h:St.LayAll a):∀ j (hj:j<a.length),(a[j]).Lay:=by
 induction a with
 | nil=>intro j hj;simp at hj
 | cons e r ih =>
  intro j hj
  cases j with
  | zero=>exact h.1
  | succ j=>exact ih h.2 j (by simpa using hj)
mutual
theorem St.pc_len:∀ (s:St) (i:Int),(s.pc i).length≤8*s.bulk
 | .mk k n e ck ca cb y l,i=>by
  have h1:=Ex.pc_len e
  have h2:=cdP_len ck ca cb
  have h3:=St.pcAll_len y i
  have h4:=St.pcAll_len l i
  have h5:=St.pcAll_len y (i+1)
  have h6:=Ex.nodes_pos ca
  have h7:=Ex.nodes_pos cb
  have h8:=Ex.nodes_pos e
  rw [St.pc,St.bulk]
  split
  ·simp;omega
  split
  ·simp;omega
  split
  ·split
   ·simp only [ifP,jn_len,List.length_append,List.length_cons,List.length_nil];omega
   ·simp only [elP,jn_len,List.length_append,List.length_cons,List.length_nil];omega
  split
  ·split
   ·simp
   ·simp only [lpP,jn_len,List.length_append,List.length_cons,List.length_nil];omega
  split
  ·split
   ·simp
   ·simp only [lpP,whP,jn_len,List.length_append,List.length_cons,List.length_nil];omega
  split
  ·simp only [jn_len,List.length_append,List.length_cons,List.length_nil];omega
  ·simp;omega
theorem St.pcAll_len:∀ (a:List St) (i:Int),(St.pcAll a i).length≤8*St.bulkAll a
 | [],_=>Nat.zero_le _
 | s::r,i=>by
  have:=St.pc_len s i
  have:=St.pcAll_len r i
  rw [St.pcAll,St.bulkAll,jn_len]
  omega
end
theorem St.pcAll_take {a:List St} (i:Int):∀ j (hj:j<a.length),jn (St.pcAll (a.take j) i) ((a[j]).pc i)=St.pcAll (a.take (j+1)) i:=by
 induction a with
 | nil=>intro j hj;simp at hj
 | cons e r ih =>
  intro j hj
  cases j with
  | zero=>simp [St.pcAll,nil_jn,jn_nil]
  | succ j =>
   have:=ih j (by simpa using hj)
   simp only [List.take_succ_cons,St.pcAll,List.getElem_cons_succ] at this ⊢
   rw [jn_jn,this]
theorem St.bulkAll_take {a:List St}:∀ j (hj:j<a.length),St.bulkAll (a.take j)+(a[j]).bulk≤St.bulkAll a:=by
 induction a with
 | nil=>intro j hj;simp at hj
 | cons e r ih =>
  intro j hj
  cases j with
  | zero=>simp [St.bulkAll]
  | succ j =>
   have:=ih j (by simpa using hj)
   simp only [List.take_succ_cons,St.bulkAll,List.getElem_cons_succ] at this ⊢
   omega
theorem put_jn (img:List Io) (a b:List Io):img++mv img.length a++mv ((img++mv img.length a).length) b=img++mv img.length (jn a b):=by
 rw [mv_jn,List.append_assoc,List.length_append,mv_len]
 push_cast
 rfl
def StmtC (w0:World) (bb N:Nat):Prop:=∀ (s:St) (w:World) (v:Value) (img:List Io) (loops:Int) (iv:Value),s.bulk≤N→s.In w0 v→s.Lay→BW w0 w bb img loops iv→img.length+8*s.bulk≤600000→0≤loops∧loops+s.bulk≤1000000 →
 Calls Tryd.prog 95 #[.pointer (some ⟨bb,0,none⟩),v] w fun r w'=>r = .returned (.tuple #[])∧∃ iv',BW w0 w' bb (img++mv img.length (s.pc loops)) loops iv'∧BG bb w w' iv iv'
def ListC (w0:World) (bb N:Nat):Prop:=∀ (a:List St) (w:World) (v:Value) (img:List Io) (loops:Int) (iv:Value),St.bulkAll a≤N→St.Sl w0 a v→St.LayAll a→BW w0 w bb img loops iv→img.length+8*St.bulkAll a≤600000→0≤loops∧loops+St.bulkAll a≤1000000 →
 Calls Tryd.prog 60 #[.pointer (some ⟨bb,0,none⟩),v] w fun r w'=>r = .returned (.tuple #[])∧∃ iv',BW w0 w' bb (img++mv img.length (St.pcAll a loops)) loops iv'∧BG bb w w' iv iv'
theorem in_shape {w:World} {e ca cb:Ex} {y l:List St} {k n ek en ck ak an bk bn:Int} {ead aad bad yad lad:Option Addr} {em ec am ac bm bc yc lc:Nat}
  (h1:e.In w (.agg #[.int .i64 ek,.int .i64 en,.slice ead em ec])) (h2:ca.In w (.agg #[.int .i64 ak,.int .i64 an,.slice aad am ac])) (h3:cb.In w (.agg #[.int .i64 bk,.int .i64 bn,.slice bad bm bc])) (h4:St.Sl w y (.slice yad y.length yc)) (h5:St.Sl w l (.slice lad l.length lc)) :
  (St.mk k n e ck ca cb y l).In w (.agg #[.int .i64 k,.int .i64 n,.int .i64 ek,.int .i64 en,.slice ead em ec,.int .i64 ck,.int .i64 ak,.int .i64 an,.slice aad am ac,.int .i64 bk,.int .i64 bn,.slice bad bm bc,.slice yad y.length yc,.slice lad l.length lc]):=by
 unfold St.In
 exact ⟨_,_,_,_,_,_,_,_,_,_,_,rfl,h1,h2,h3,h4,h5⟩
set_option maxRecDepth 20000 in
set_option maxHeartbeats 400000 in
theorem list_of_stmtC (w0:World) (bb N:Nat) (hS:StmtC w0 bb N):ListC w0 bb N:=by
 intro a w v img loops iv hN hin hlay hw hlen hlo
 obtain ⟨ad,c,rfl,hrow⟩:=hin
 have hal:=length_le_bulkAll a
 have HR:Hid ((a=[]∨∃ g o,ad=some ⟨g,o,none⟩∧St.Row w0 a g o)∧St.LayAll a):=⟨hrow,hlay⟩
 have HW:Hid (BW w0 w bb img loops iv):=hw
 have HS:Hid _:=hS
 clear hrow hlay hw hS
 go_enter Tryd.func60,Tryd.ntmps60
 go_wp2_with fail
 go_loopw [8] (fun i wr=>∃ (j:Nat) (iv':Value),j≤a.length∧i = .int .i64 j∧BW w0 wr bb (img++mv img.length (St.pcAll (a.take j) loops)) loops iv'∧BG bb w wr iv iv') (fun i _=>a.length - (intOf i).toNat)
 case atStart=>exact ⟨0,iv,Nat.zero_le _,rfl,by simpa [St.pcAll,mv] using HW.out,BG.refl _ _ _⟩
 case round =>
  obtain ⟨j,iv1,hj,rfl,hw1,hg1⟩:=hrel
  have H1:Hid (BW w0 wr bb (img++mv img.length (St.pcAll (a.take j) loops)) loops iv1∧BG bb w wr iv iv1):=⟨hw1,hg1⟩
  by_cases hjl:j<a.length
  ·have hji:(j:Int)<(a.length:Int):=by omega
   rcases HR.out.1 with h | ⟨b,o,rfl,hrow⟩
   ·rw [h] at hjl;simp at hjl
   obtain ⟨k,n,e,ck,ca,cb,y,l,hst,ek,en,ead,em,ec,ak,an,aad,am,ac,bk,bn,bad,bm,bc,yad,yc,lad,lc,s0,s1,s2,s3,s4,s5,s6,s7,s8,s9,s10,s11,s12,s13,i1,i2,i3,i4,i5⟩:=hrow.shape hjl
   have hbel:=hw1.bel
   replace s0:=below_cell hbel s0
   replace s1:=below_cell hbel s1
   replace s2:=below_cell hbel s2
   replace s3:=below_cell hbel s3
   replace s4:=below_cell hbel s4
   replace s5:=below_cell hbel s5
   replace s6:=below_cell hbel s6
   replace s7:=below_cell hbel s7
   replace s8:=below_cell hbel s8
   replace s9:=below_cell hbel s9
   replace s10:=below_cell hbel s10
   replace s11:=below_cell hbel s11
   replace s12:=below_cell hbel s12
   replace s13:=below_cell hbel s13
   have lb:b<wr.heap.size:=World.block_lt_of_cell? _ _ s0
   have hbt:=St.bulkAll_take j hjl
   have hpt:=St.pcAll_len (a.take j) loops
   have hly:=HR.out.2.at j hjl
   have hpn:=St.pcAll_take loops j hjl
   rw [hst] at hbt hly hpn
   have HC:=HS.out (.mk k n e ck ca cb y l) (wr.alloc (.cells #[.int .i64 k,.int .i64 n,.int .i64 ek,.int .i64 en,.slice ead em ec,.int .i64 ck,.int .i64 ak,.int .i64 an,.slice aad am ac,.int .i64 bk,.int .i64 bn,.slice bad bm bc,.slice yad y.length yc,.slice lad l.length lc] 123)) _ (img++mv img.length (St.pcAll (a.take j) loops)) loops iv1 (by omega) (in_shape i1 i2 i3 i4 i5) hly (hw1.below (below_new _ _)) (by rw [List.length_append,mv_len];omega) (by omega)
   have HPN:Hid (jn (St.pcAll (a.take j) loops) ((St.mk k n e ck ca cb y l).pc loops)=St.pcAll (a.take (j+1)) loops):=hpn
   clear i1 i2 i3 i4 i5 hrow hw1 hg1 hbel hly hpn hst
   go_wp2_with (go_at_call 95;refine HC.mono ?_;rintro r w2 ⟨rfl,iv2,hw2,hg2⟩;have H2:Hid (_∧BG bb w w2 iv iv2):=⟨hw2,(H1.out.2.trans (BG.of_below (below_new _ _))).trans hg2⟩;clear hw2 hg2 HC)
   have hq:=H2.out.1
   rw [put_jn,HPN.out] at hq
   exact ⟨⟨j+1,iv2,by omega,by simp,hq,H2.out.2⟩,by simp [intOf];omega⟩
  ·have hje:j=a.length:=by omega
   subst hje
   clear hw1 hg1
   rw [List.take_length] at H1
   go_wp2_with fail
   go_end0
   exact ⟨rfl,iv1,H1.out.1,H1.out.2⟩
def landI (img:List Io) (at_:Nat):List Io:=img.set at_ ⟨(img.getD at_ ⟨0,0,0⟩).op,img.length,(img.getD at_ ⟨0,0,0⟩).b⟩
theorem landI_at (x:List Io) (op a b:Int) (y:List Io):landI (x++[(⟨op,a,b⟩:Io)]++y) x.length=x++[(⟨op,(x.length:Int)+1+y.length,b⟩:Io)]++y:=by
 have e:(x++[(⟨op,a,b⟩:Io)]++y).getD x.length ⟨0,0,0⟩=⟨op,a,b⟩:=by simp [List.getD]
 unfold landI
 rw [e]
 simp
 omega
theorem mvI_id {d:Int} {x:Io} (h:x.op≠11∧x.op≠12∧x.op≠14):mvI d x=x:=by
 unfold mvI
 rw [if_neg (by omega),if_neg h.2.2]
mutual
theorem Ex.pc_mv (d:Int):∀ e:Ex,e.Lay→mv d e.pc=e.pc
 | .mk k n a,h=>by
  rw [Ex.Lay] at h
  have ih:=Ex.pcAll_mv d a h.2
  rw [Ex.pc]
  split
  ·rw [mv_one,mvI_id (by show k≠11∧k≠12∧k≠14;omega)]
  split
  ·rw [mv_one,mvI_id (by show (9:Int)≠11∧(9:Int)≠12∧(9:Int)≠14;omega)]
  split
  ·rw [mv_append,ih];rfl
  ·rw [mv_append,ih,mv_one,mvI_id (by show k - 1≠11∧k - 1≠12∧k - 1≠14;omega)]
theorem Ex.pcAll_mv (d:Int):∀ a:List Ex,Ex.LayAll a→mv d (Ex.pcAll a)=Ex.pcAll a
 | [],_=>rfl
 | e::r,h=>by rw [Ex.pcAll,mv_append,Ex.pc_mv d e h.1,Ex.pcAll_mv d r h.2]
end
theorem cdP_mv (d:Int) (ck:Int) (ca cb:Ex) (ha:ca.Lay) (hb:cb.Lay):mv d (cdP ck ca cb)=cdP ck ca cb:=by
 unfold cdP
 rw [mv_append,mv_append,mv_append,Ex.pc_mv d ca ha,Ex.pc_mv d cb hb]
 congr 1
 ·rw [mv_one,mvI_id (by show (if ck=2∨ck=3 then (8:Int) else 7)≠11∧(if ck=2∨ck=3 then (8:Int) else 7)≠12∧(if ck=2∨ck=3 then (8:Int) else 7)≠14;split <;> omega)]
 ·split <;> rfl
theorem if_img (img c A:List Io) (hc:mv img.length c=c):landI (img++c++[(⟨12,0,0⟩:Io)]++mv ((img++c++[(⟨12,0,0⟩:Io)]).length) A) (img++c).length=img++mv img.length (ifP c A):=by
 rw [landI_at,ifP,mv_jn,mv_append,hc,mv_one]
 simp [mvI,mv_len]
 omega
theorem el_img (img c A B:List Io) (hc:mv img.length c=c) (s2 s4:List Io) (h2:s2=img++c++[(⟨12,0,0⟩:Io)]++mv ((img++c++[(⟨12,0,0⟩:Io)]).length) A) (h4:s4=landI (s2++[(⟨11,0,0⟩:Io)]) (img++c).length):landI (s4++mv s4.length B) s2.length=img++mv img.length (elP c A B):=by
 have e4:s4=(img++c++[(⟨12,((img++c).length:Int)+1+(A.length+1),0⟩:Io)]++mv ((img++c++[(⟨12,0,0⟩:Io)]).length) A)++[(⟨11,0,0⟩:Io)]:=by
  rw [h4,h2,List.append_assoc _ (mv _ _),landI_at]
  simp [mv_len]
 have l2:s2.length=(img++c++[(⟨12,((img++c).length:Int)+1+(A.length+1),0⟩:Io)]++mv ((img++c++[(⟨12,0,0⟩:Io)]).length) A).length:=by rw [h2];simp [mv_len]
 have l4:(s4.length:Int)=img.length+c.length+1+A.length+1:=by rw [e4];simp [mv_len];omega
 rw [l4,e4,l2,landI_at,elP,mv_jn,mv_append,mv_jn,mv_append,hc,mv_one,mv_one]
 simp [mvI,mv_len,jn_len]
 exact ⟨by omega,by omega,by congr 1;omega⟩
theorem wh_img (img c A:List Io) (i:Int) (hc:mv img.length c=c) (s2 s4:List Io) (h2:s2=img++c++[(⟨12,0,0⟩:Io)]++mv ((img++c++[(⟨12,0,0⟩:Io)]).length) A) (h4:s4=landI (s2++[(⟨11,0,0⟩:Io)]) (img++c).length):landI (s4++[(⟨15,i,0⟩:Io)]) s2.length=img++mv img.length (whP c A i):=by
 have e4:s4=(img++c++[(⟨12,((img++c).length:Int)+1+(A.length+1),0⟩:Io)]++mv ((img++c++[(⟨12,0,0⟩:Io)]).length) A)++[(⟨11,0,0⟩:Io)]:=by
  rw [h4,h2,List.append_assoc _ (mv _ _),landI_at]
  simp [mv_len]
 have l2:s2.length=(img++c++[(⟨12,((img++c).length:Int)+1+(A.length+1),0⟩:Io)]++mv ((img++c++[(⟨12,0,0⟩:Io)]).length) A).length:=by rw [h2];simp [mv_len]
 rw [e4,l2,landI_at,whP,mv_append,mv_jn,mv_append,hc,mv_one]
 simp [mvI,mv,jn_len]
 omega
theorem lp_img (img I:List Io) (i n:Int):img++[(⟨13,i,n - 1⟩:Io)]++mv ((img++[(⟨13,i,n - 1⟩:Io)]).length) I++[⟨14,i,((img++[(⟨13,i,n - 1⟩:Io)]).length:Int)⟩]=img++mv img.length (lpP i n I):=by
 rw [lpP,mv_append,mv_jn,mv_one]
 simp [mvI,mv]
 omega
structure Kp (w:World) (bb:Nat) (iv:Value) (p:Nat) (o:Obj):Prop where
 blk:w.heap[p]?=some o
 n0:p≠bb
 n1:iv.ownBlock≠some p
theorem Kp.go {bb:Nat} {w w':World} {v v':Value} {p:Nat} {o:Obj} (h:Kp w bb v p o) (hg:BG bb w w' v v'):Kp w' bb v' p o :=
 ⟨(hg.oth p (Array.getElem?_eq_some_iff.1 h.blk).1 h.n0 h.n1).trans h.blk,h.n0,hg.apart (Array.getElem?_eq_some_iff.1 h.blk).1 h.n1⟩
theorem Kp.new {w0 w:World} {bb:Nat} {img:List Io} {loops:Int} {iv:Value} (h:BW w0 w bb img loops iv) (o:Obj):Kp (w.alloc o) bb iv w.heap.size o :=
 ⟨heap_alloc_new _ _,by have:=h.cells.2.2.2;omega,fun e=>by have:=(h.own.lt _ e).2;omega⟩
def wr (z:Int):Int:=wrap64 z
def opVal (k n:Int) (vs is l:List Int):Int :=
 if k=1 then n else if k=2 then vs.getD n.toNat 0 else if k=3 then is.getD n.toNat 0 else if k=4 then wr (-(l.getD 0 0))
 else if k=5 then wr (l.getD 0 0+l.getD 1 0) else if k=6 then wr (l.getD 0 0 - l.getD 1 0) else wr (l.getD 0 0*l.getD 1 0)
mutual
def Ex.val (vs is:List Int):Ex→Int
 | .mk k n a=>opVal k n vs is (Ex.vals vs is a)
def Ex.vals (vs is:List Int):List Ex→List Int
 | []=>[]
 | x::r=>x.val vs is::Ex.vals vs is r
end
def condVal (ck:Int) (x y:Int):Bool:=if ck=1 then decide (x<y) else if ck=2 then decide (x=y) else if ck=3 then decide (x≠y) else decide (y≤x)
structure Ms where
 vars:List Int
 puts:List (Int × Int)
 steps:Nat
def again (c:Ms→Bool) (f:Ms→Ms × Option Nat):Nat→Ms→Ms × Option Nat
 | 0,s=>(s,none)
 | n+1,s=>if c s then (match f s with | (s',some z)=>(s',some z) | (s',none)=>again c f n s') else (s,none)
def condOf (is:List Int) (ck:Int) (ca cb:Ex) (s:Ms):Bool:=condVal ck (ca.val s.vars is) (cb.val s.vars is)
mutual
def St.run (is:List Int):St→Nat→Ms→Ms × Option Nat
 | .mk k n e ck ca cb b l,at_,s =>
  if s.steps=20000 then (s,some at_) else
  if k=1 then ({ s with steps:=s.steps+1,vars:=s.vars.set n.toNat (e.val s.vars is) },none)
  else if k=2 then ({ s with steps:=s.steps+1,puts:=s.puts++[(n,e.val s.vars is)] },none)
  else if k=3 then (if condOf is ck ca cb s then St.runAll is b (at_+1) { s with steps:=s.steps+1 } else St.runAll is l (at_+1+St.countAll b) { s with steps:=s.steps+1 })
  else if k=4 then again (fun _=>true) (fun s=>St.runAll is b (at_+1) s) n.toNat { s with steps:=s.steps+1 }
  else if k=5 then again (condOf is ck ca cb) (fun s=>St.runAll is b (at_+1) s) n.toNat { s with steps:=s.steps+1 }
  else if k=6 then St.runAll is b (at_+1) { s with steps:=s.steps+1 }
  else ({ s with steps:=s.steps+1 },none)
def St.runAll (is:List Int):List St→Nat→Ms→Ms × Option Nat
 | [],_,s=>(s,none)
 | x::r,at_,s=>match St.run is x at_ s with
  | (s',some z)=>(s',some z)
  | (s',none)=>St.runAll is r (at_+x.count) s'
end
theorem again_nil (c:Ms→Bool) (is:List Int) (at_:Nat):∀ (n:Nat) (s:Ms),again c (fun s=>St.runAll is [] at_ s) n s=(s,none)
 | 0,s=>rfl
 | n+1,s=>by
  unfold again
  by_cases h:c s
  ·rw [if_pos h]
   simp only [St.runAll]
   exact again_nil c is at_ n s
  ·rw [if_neg h]
theorem again_keep {c:Ms→Bool} {f:Ms→Ms × Option Nat} (hf:∀ s,s.vars.length=8→(f s).1.vars.length=8∧(s.steps≤20000→(f s).1.steps≤20000)∧s.steps≤(f s).1.steps):∀ (n:Nat) (s:Ms),s.vars.length=8→(again c f n s).1.vars.length=8∧(s.steps≤20000→(again c f n s).1.steps≤20000)∧s.steps≤(again c f n s).1.steps
 | 0,s,h=>⟨h,id,Nat.le_refl _⟩
 | n+1,s,h=>by
  unfold again
  by_cases hc:c s
  ·rw [if_pos hc]
   have h1:=hf s h
   rcases hr:f s with ⟨s',_ | z⟩
   ·rw [hr] at h1
    have h2:=again_keep (c:=c) hf n s' h1.1
    exact ⟨h2.1,fun h=>h2.2.1 (h1.2.1 h),Nat.le_trans h1.2.2 h2.2.2⟩
   ·rw [hr] at h1
    exact h1
  ·rw [if_neg hc]
   exact ⟨h,id,Nat.le_refl _⟩
mutual
theorem St.run_keep (is:List Int):∀ (x:St) (at_:Nat) (s:Ms),s.vars.length=8→(St.run is x at_ s).1.vars.length=8∧(s.steps≤20000→(St.run is x at_ s).1.steps≤20000)∧s.steps≤(St.run is x at_ s).1.steps
 | .mk k n e ck ca cb b l,at_,s,h=>by
  unfold St.run
  by_cases h0:s.steps=20000
  ·rw [if_pos h0];exact ⟨h,id,Nat.le_refl _⟩
  rw [if_neg h0]
  have next:∀ (r:Ms × Option Nat) (t:Ms),t.steps=s.steps+1→(r.1.vars.length=8∧(t.steps≤20000→r.1.steps≤20000)∧t.steps≤r.1.steps)→(r.1.vars.length=8∧(s.steps≤20000→r.1.steps≤20000)∧s.steps≤r.1.steps) :=
   fun r t ht ⟨a,b,c⟩=>⟨a,fun h=>b (by omega),by omega⟩
  split
  ·exact ⟨by simpa using h,fun h=>by simp only;omega,by simp only;omega⟩
  split
  ·exact ⟨h,fun h=>by simp only;omega,by simp only;omega⟩
  split
  ·split
   ·exact next _ _ rfl (St.runAll_keep is b _ { s with steps:=s.steps+1 } h)
   ·exact next _ _ rfl (St.runAll_keep is l _ { s with steps:=s.steps+1 } h)
  split
  ·exact next _ _ rfl (again_keep (fun s hs=>St.runAll_keep is b _ s hs) _ { s with steps:=s.steps+1 } h)
  split
  ·exact next _ _ rfl (again_keep (fun s hs=>St.runAll_keep is b _ s hs) _ { s with steps:=s.steps+1 } h)
  split
  ·exact next _ _ rfl (St.runAll_keep is b _ { s with steps:=s.steps+1 } h)
  ·exact ⟨h,fun h=>by simp only;omega,by simp only;omega⟩
theorem St.runAll_keep (is:List Int):∀ (a:List St) (at_:Nat) (s:Ms),s.vars.length=8→(St.runAll is a at_ s).1.vars.length=8∧(s.steps≤20000→(St.runAll is a at_ s).1.steps≤20000)∧s.steps≤(St.runAll is a at_ s).1.steps
 | [],at_,s,h=>by unfold St.runAll;exact ⟨h,id,Nat.le_refl _⟩
 | x::r,at_,s,h=>by
  have h1:=St.run_keep is x at_ s h
  unfold St.runAll
  rcases hr:St.run is x at_ s with ⟨s',_ | z⟩
  ·rw [hr] at h1
   have h2:=St.runAll_keep is r (at_+x.count) s' h1.1
   exact ⟨h2.1,fun h=>h2.2.1 (h1.2.1 h),Nat.le_trans h1.2.2 h2.2.2⟩
  ·rw [hr] at h1
   exact h1
end
mutual
def Ex.Ok:Ex→Prop
 | .mk k n a=>Ex.OkAll a∧((k=1∧a=[])∨(k=2∧0≤n∧n≤7∧a=[])∨(k=3∧0≤n∧n≤3∧a=[])∨(k=4∧a.length=1)∨((k=5∨k=6∨k=7)∧a.length=2))
def Ex.OkAll:List Ex→Prop
 | []=>True
 | x::r=>x.Ok∧Ex.OkAll r
end
structure ValIs (w:World) (rb:Nat) (vs is:List Int):Prop where
 vars:∃ vb vc,w.cell? ⟨rb,0,none⟩=some (.slice (some ⟨vb,0,none⟩) 8 vc)∧vs.length=8∧∀ j,j<8→w.cell? ⟨vb,j,none⟩=some (.int .i64 (vs.getD j 0))
 ins:∃ ib io ic,w.cell? ⟨rb,3,none⟩=some (.slice (some ⟨ib,io,none⟩) 4 ic)∧∀ j,j<4→w.cell? ⟨ib,io+j,none⟩=some (.int .i64 (is.getD j 0))
theorem ValIs.below {w w':World} {rb:Nat} {vs is:List Int} (h:ValIs w rb vs is) (hb:Below w.heap.size w w'):ValIs w' rb vs is:=by
 obtain ⟨vb,vc,h1,h2,h3⟩:=h.vars
 obtain ⟨ib,io,ic,h4,h5⟩:=h.ins
 exact ⟨⟨vb,vc,below_cell hb h1,h2,fun j hj=>below_cell hb (h3 j hj)⟩,⟨ib,io,ic,below_cell hb h4,fun j hj=>below_cell hb (h5 j hj)⟩⟩
set_option maxRecDepth 20000 in
set_option maxHeartbeats 2000000 in
theorem value_1 (rb:Nat) (n:Int) (ad:Option Addr) (m c:Nat) (w:World):Calls Tryd.prog 148 #[.pointer (some ⟨rb,0,none⟩),.agg #[.int .i64 1,.int .i64 n,.slice ad m c]] w fun r w'=>r = .returned (.int .i64 n)∧Below w.heap.size w w':=by
 go_enter Tryd.func148,Tryd.ntmps148
 go_wp2_with fail
 go_ret
 exact ⟨rfl,(Below.refl _ _).alloc (Nat.le_refl _) _⟩
set_option maxRecDepth 20000 in
set_option maxHeartbeats 2000000 in
theorem value_2 (rb:Nat) (n:Nat) (hn:n≤7) (ad:Option Addr) (m c:Nat) (vs is:List Int) (w:World) (hv:ValIs w rb vs is):Calls Tryd.prog 148 #[.pointer (some ⟨rb,0,none⟩),.agg #[.int .i64 2,.int .i64 n,.slice ad m c]] w fun r w'=>r = .returned (.int .i64 (vs.getD n 0))∧Below w.heap.size w w':=by
 obtain ⟨vb,vc,h1,h2,h3⟩:=hv.vars
 have h4:=h3 n (by omega)
 have hr:rb<w.heap.size:=World.block_lt_of_cell? _ _ h1
 have hvb:vb<w.heap.size:=World.block_lt_of_cell? _ _ h4
 generalize vs.getD n 0=z at *
 clear h3 hv h2
 go_enter Tryd.func148,Tryd.ntmps148
 go_wp2_with fail
 go_region
 all_goals
  go_wp2_with fail
  go_ret
  exact ⟨rfl,((Below.refl _ _).alloc (Nat.le_refl _) _).drew⟩
set_option maxRecDepth 20000 in
set_option maxHeartbeats 2000000 in
theorem value_3 (rb:Nat) (n:Nat) (hn:n≤3) (ad:Option Addr) (m c:Nat) (vs is:List Int) (w:World) (hv:ValIs w rb vs is):Calls Tryd.prog 148 #[.pointer (some ⟨rb,0,none⟩),.agg #[.int .i64 3,.int .i64 n,.slice ad m c]] w fun r w'=>r = .returned (.int .i64 (is.getD n 0))∧Below w.heap.size w w':=by
 obtain ⟨ib,io,ic,h1,h3⟩:=hv.ins
 have h4:=h3 n (by omega)
 have hr:rb<w.heap.size:=World.block_lt_of_cell? _ _ h1
 have hvb:ib<w.heap.size:=World.block_lt_of_cell? _ _ h4
 generalize is.getD n 0=z at *
 clear h3 hv
 go_enter Tryd.func148,Tryd.ntmps148
 go_wp2_with fail
 go_region
 all_goals
  go_wp2_with fail
  go_ret
  exact ⟨rfl,((Below.refl _ _).alloc (Nat.le_refl _) _).drew⟩
theorem keep7 {W X Y:World} {p b o:Nat} {xk x x0 x1 x2 y0 y1 y2:Value} (hb:Below X.heap.size X Y) (h:Below W.heap.size W X∧X.cell? ⟨p,0,none⟩=some xk∧X.cell? ⟨p,2,none⟩=some x∧X.cell? ⟨b,o,none⟩=some x0∧X.cell? ⟨b,o+1,none⟩=some x1∧X.cell? ⟨b,o+2,none⟩=some x2∧X.cell? ⟨b,o+3,none⟩=some y0∧X.cell? ⟨b,o+4,none⟩=some y1∧X.cell? ⟨b,o+5,none⟩=some y2) :
  Below W.heap.size W Y∧Y.cell? ⟨p,0,none⟩=some xk∧Y.cell? ⟨p,2,none⟩=some x∧Y.cell? ⟨b,o,none⟩=some x0∧Y.cell? ⟨b,o+1,none⟩=some x1∧Y.cell? ⟨b,o+2,none⟩=some x2∧Y.cell? ⟨b,o+3,none⟩=some y0∧Y.cell? ⟨b,o+4,none⟩=some y1∧Y.cell? ⟨b,o+5,none⟩=some y2 :=
 ⟨below_seq h.1 hb,below_cell hb h.2.1,below_cell hb h.2.2.1,below_cell hb h.2.2.2.1,below_cell hb h.2.2.2.2.1,below_cell hb h.2.2.2.2.2.1,below_cell hb h.2.2.2.2.2.2.1,below_cell hb h.2.2.2.2.2.2.2.1,below_cell hb h.2.2.2.2.2.2.2.2⟩
def ValOk (rb:Nat) (vs is:List Int) (N:Nat):Prop:=∀ (e:Ex) (w:World) (v:Value),e.nodes<N→N≤1048577→e.Ok→ValIs w rb vs is→e.In w v →
 Calls Tryd.prog 148 #[.pointer (some ⟨rb,0,none⟩),v] w fun r w'=>r = .returned (.int .i64 (e.val vs is))∧Below w.heap.size w w'
set_option maxRecDepth 20000 in
set_option maxHeartbeats 2000000 in
theorem value_4 (rb:Nat) (vs is:List Int) (N:Nat) (ih:ValOk rb vs is N) (n:Int) (x:Ex) (b o c:Nat) (w:World) (hn:x.nodes<N) (hN:N≤1048577) (hok:x.Ok) (hv:ValIs w rb vs is) (hr:Ex.Row w [x] b o) :
  Calls Tryd.prog 148 #[.pointer (some ⟨rb,0,none⟩),.agg #[.int .i64 4,.int .i64 n,.slice (some ⟨b,o,none⟩) 1 c]] w fun r w'=>r = .returned (.int .i64 (wr (-(x.val vs is))))∧Below w.heap.size w w':=by
 obtain ⟨k0,n0,ad0,m0,c0,d0,d1,d2,hin⟩:=hr.shape (j:=0) (by simp)
 simp only [Nat.zero_mul,Nat.add_zero,List.getElem_cons_zero] at d0 d1 d2 hin
 have hb0:b<w.heap.size:=World.block_lt_of_cell? _ _ d0
 have HH:Hid (ValOk rb vs is N∧x.Ok∧ValIs w rb vs is∧x.In w (.agg #[.int .i64 k0,.int .i64 n0,.slice ad0 m0 c0])):=⟨ih,hok,hv,hin⟩
 clear ih hok hv hr hin
 go_enter Tryd.func148,Tryd.ntmps148
 go_wp2_with (go_at_call 148;refine (HH.out.1 x _ _ hn hN HH.out.2.1 (HH.out.2.2.1.below ((Below.refl _ _).alloc (Nat.le_refl _) _)) (HH.out.2.2.2.below ((Below.refl _ _).alloc (Nat.le_refl _) _))).mono ?_;rintro r w1 ⟨rfl,hb1⟩;have HB1:Hid _:=hb1;clear hb1)
 go_ret
 exact ⟨ret_int (by simp [wr]),below_seq ((Below.refl _ _).alloc (Nat.le_refl _) _) HB1.out⟩
set_option maxRecDepth 20000 in
set_option maxHeartbeats 4000000 in
theorem value_5 (rb:Nat) (vs is:List Int) (N:Nat) (ih:ValOk rb vs is N) (k n:Int) (hk:k=5∨k=6∨k=7) (x y:Ex) (b o c:Nat) (w:World) (hn:x.nodes<N) (hn':y.nodes<N) (hN:N≤1048577) (hok:x.Ok) (hok':y.Ok) (hv:ValIs w rb vs is) (hr:Ex.Row w [x,y] b o) :
  Calls Tryd.prog 148 #[.pointer (some ⟨rb,0,none⟩),.agg #[.int .i64 k,.int .i64 n,.slice (some ⟨b,o,none⟩) 2 c]] w fun r w'=>r = .returned (.int .i64 (if k=5 then wr (x.val vs is+y.val vs is) else if k=6 then wr (x.val vs is - y.val vs is) else wr (x.val vs is*y.val vs is)))∧Below w.heap.size w w':=by
 obtain ⟨k0,n0,ad0,m0,c0,d0,d1,d2,hin⟩:=hr.shape (j:=0) (by simp)
 obtain ⟨k1,n1,ad1,m1,c1,e0,e1,e2,hin'⟩:=hr.shape (j:=1) (by simp)
 simp only [Nat.zero_mul,Nat.add_zero,List.getElem_cons_zero,Nat.one_mul,List.getElem_cons_succ,Nat.add_assoc,Nat.reduceAdd] at d0 d1 d2 hin e0 e1 e2 hin'
 have hb0:b<w.heap.size:=World.block_lt_of_cell? _ _ d0
 have HH:Hid (ValOk rb vs is N∧x.Ok∧ValIs w rb vs is∧x.In w (.agg #[.int .i64 k0,.int .i64 n0,.slice ad0 m0 c0])∧y.Ok∧y.In w (.agg #[.int .i64 k1,.int .i64 n1,.slice ad1 m1 c1])):=⟨ih,hok,hv,hin,hok',hin'⟩
 clear ih hok hv hr hin hok' hin'
 rcases hk with rfl | rfl | rfl
 ·go_enter Tryd.func148,Tryd.ntmps148
  go_wp2_with fail
  go_region_held3 (fun w'=>Below w.heap.size w w'∧w'.cell? ⟨w.heap.size,0,none⟩=some (.int .i64 5)∧w'.cell? ⟨w.heap.size,2,none⟩=some (.slice (some ⟨b,o,none⟩) 2 c)∧w'.cell? ⟨b,o,none⟩=some (.int .i64 k0)∧w'.cell? ⟨b,o+1,none⟩=some (.int .i64 n0)∧w'.cell? ⟨b,o+2,none⟩=some (.slice ad0 m0 c0)∧w'.cell? ⟨b,o+3,none⟩=some (.int .i64 k1)∧w'.cell? ⟨b,o+4,none⟩=some (.int .i64 n1)∧w'.cell? ⟨b,o+5,none⟩=some (.slice ad1 m1 c1))
   (first | assumption | (refine ⟨((Below.refl _ _).alloc (Nat.le_refl _) _).drew,?_,?_,?_,?_,?_,?_,?_,?_⟩ <;> simp [go_sem, *,World.cell?_alloc_some]))
   (first
    | (go_at_call_of 148 k0;refine (HH.out.1 x _ _ hn hN HH.out.2.1 (HH.out.2.2.1.below (And.left ‹Below w.heap.size w _∧_›)) (HH.out.2.2.2.1.below (And.left ‹Below w.heap.size w _∧_›))).mono ?_;rintro r w1 ⟨rfl,hb1⟩;have hS1:=keep7 hb1 ‹Below w.heap.size w _∧_›;clear hb1)
    | (go_at_call_of 148 k1;refine (HH.out.1 y _ _ hn' hN HH.out.2.2.2.2.1 (HH.out.2.2.1.below (And.left ‹Below w.heap.size w _∧_›)) (HH.out.2.2.2.2.2.below (And.left ‹Below w.heap.size w _∧_›))).mono ?_;rintro r w2 ⟨rfl,hb2⟩;have hS2:=keep7 hb2 ‹Below w.heap.size w _∧_›;clear hb2))
  obtain ⟨hB,c0',-⟩:=‹Below w.heap.size w _∧_›
  have HB:Hid _:=hB
  clear hB
  go_wp2_with fail
  go_ret
  exact ⟨ret_int (by simp [wr]),HB.out⟩
 ·go_enter Tryd.func148,Tryd.ntmps148
  go_wp2_with fail
  go_region_held3 (fun w'=>Below w.heap.size w w'∧w'.cell? ⟨w.heap.size,0,none⟩=some (.int .i64 6)∧w'.cell? ⟨w.heap.size,2,none⟩=some (.slice (some ⟨b,o,none⟩) 2 c)∧w'.cell? ⟨b,o,none⟩=some (.int .i64 k0)∧w'.cell? ⟨b,o+1,none⟩=some (.int .i64 n0)∧w'.cell? ⟨b,o+2,none⟩=some (.slice ad0 m0 c0)∧w'.cell? ⟨b,o+3,none⟩=some (.int .i64 k1)∧w'.cell? ⟨b,o+4,none⟩=some (.int .i64 n1)∧w'.cell? ⟨b,o+5,none⟩=some (.slice ad1 m1 c1))
   (first | assumption | (refine ⟨((Below.refl _ _).alloc (Nat.le_refl _) _).drew,?_,?_,?_,?_,?_,?_,?_,?_⟩ <;> simp [go_sem, *,World.cell?_alloc_some]))
   (first
    | (go_at_call_of 148 k0;refine (HH.out.1 x _ _ hn hN HH.out.2.1 (HH.out.2.2.1.below (And.left ‹Below w.heap.size w _∧_›)) (HH.out.2.2.2.1.below (And.left ‹Below w.heap.size w _∧_›))).mono ?_;rintro r w1 ⟨rfl,hb1⟩;have hS1:=keep7 hb1 ‹Below w.heap.size w _∧_›;clear hb1)
    | (go_at_call_of 148 k1;refine (HH.out.1 y _ _ hn' hN HH.out.2.2.2.2.1 (HH.out.2.2.1.below (And.left ‹Below w.heap.size w _∧_›)) (HH.out.2.2.2.2.2.below (And.left ‹Below w.heap.size w _∧_›))).mono ?_;rintro r w2 ⟨rfl,hb2⟩;have hS2:=keep7 hb2 ‹Below w.heap.size w _∧_›;clear hb2))
  obtain ⟨hB,c0',-⟩:=‹Below w.heap.size w _∧_›
  have HB:Hid _:=hB
  clear hB
  go_wp2_with fail
  go_ret
  exact ⟨ret_int (by simp [wr]),HB.out⟩
 ·go_enter Tryd.func148,Tryd.ntmps148
  go_wp2_with fail
  go_region_held3 (fun w'=>Below w.heap.size w w'∧w'.cell? ⟨w.heap.size,0,none⟩=some (.int .i64 7)∧w'.cell? ⟨w.heap.size,2,none⟩=some (.slice (some ⟨b,o,none⟩) 2 c)∧w'.cell? ⟨b,o,none⟩=some (.int .i64 k0)∧w'.cell? ⟨b,o+1,none⟩=some (.int .i64 n0)∧w'.cell? ⟨b,o+2,none⟩=some (.slice ad0 m0 c0)∧w'.cell? ⟨b,o+3,none⟩=some (.int .i64 k1)∧w'.cell? ⟨b,o+4,none⟩=some (.int .i64 n1)∧w'.cell? ⟨b,o+5,none⟩=some (.slice ad1 m1 c1))
   (first | assumption | (refine ⟨((Below.refl _ _).alloc (Nat.le_refl _) _).drew,?_,?_,?_,?_,?_,?_,?_,?_⟩ <;> simp [go_sem, *,World.cell?_alloc_some]))
   (first
    | (go_at_call_of 148 k0;refine (HH.out.1 x _ _ hn hN HH.out.2.1 (HH.out.2.2.1.below (And.left ‹Below w.heap.size w _∧_›)) (HH.out.2.2.2.1.below (And.left ‹Below w.heap.size w _∧_›))).mono ?_;rintro r w1 ⟨rfl,hb1⟩;have hS1:=keep7 hb1 ‹Below w.heap.size w _∧_›;clear hb1)
    | (go_at_call_of 148 k1;refine (HH.out.1 y _ _ hn' hN HH.out.2.2.2.2.1 (HH.out.2.2.1.below (And.left ‹Below w.heap.size w _∧_›)) (HH.out.2.2.2.2.2.below (And.left ‹Below w.heap.size w _∧_›))).mono ?_;rintro r w2 ⟨rfl,hb2⟩;have hS2:=keep7 hb2 ‹Below w.heap.size w _∧_›;clear hb2))
  obtain ⟨hB,c0',-⟩:=‹Below w.heap.size w _∧_›
  have HB:Hid _:=hB
  clear hB
  go_wp2_with fail
  go_ret
  exact ⟨ret_int (by simp [wr]),HB.out⟩
theorem value_any (rb:Nat) (vs is:List Int) (N:Nat):ValOk rb vs is N:=by
 induction N with
 | zero=>intro e w v h;omega
 | succ N ih =>
  intro e w v hn hN hok hv hin
  obtain ⟨k,n,a⟩:=e
  unfold Ex.Ok at hok
  unfold Ex.In at hin
  obtain ⟨hall,hok⟩:=hok
  obtain ⟨ad,c,rfl,hrow⟩:=hin
  have hN':N≤1048577:=by omega
  simp only [Ex.nodes] at hn
  rcases hok with ⟨rfl,rfl⟩ | ⟨rfl,h0,h7,rfl⟩ | ⟨rfl,h0,h7,rfl⟩ | ⟨rfl,hl⟩ | ⟨hk,hl⟩
  ·refine (value_1 rb n ad _ c w).mono fun r w' ⟨h1,h2⟩=>⟨h1.trans ?_,h2⟩
   simp [Ex.val,opVal]
  ·obtain ⟨m,rfl⟩:∃ m:Nat,n=m:=⟨n.toNat,by omega⟩
   refine (value_2 rb m (by omega) ad _ c vs is w hv).mono fun r w' ⟨h1,h2⟩=>⟨h1.trans ?_,h2⟩
   simp [Ex.val,opVal]
  ·obtain ⟨m,rfl⟩:∃ m:Nat,n=m:=⟨n.toNat,by omega⟩
   refine (value_3 rb m (by omega) ad _ c vs is w hv).mono fun r w' ⟨h1,h2⟩=>⟨h1.trans ?_,h2⟩
   simp [Ex.val,opVal]
  ·match a,hl with
   | [x],_ =>
    rcases hrow with h | ⟨b,o,rfl,hr⟩
    ·cases h
    simp only [Ex.nodesAll] at hn
    unfold Ex.OkAll at hall
    refine (value_4 rb vs is N ih n x b o c w (by omega) hN' hall.1 hv hr).mono fun r w' ⟨h1,h2⟩=>⟨h1.trans ?_,h2⟩
    simp [Ex.val,Ex.vals,opVal]
  ·match a,hl with
   | [x,y],_ =>
    rcases hrow with h | ⟨b,o,rfl,hr⟩
    ·cases h
    simp only [Ex.nodesAll] at hn
    unfold Ex.OkAll Ex.OkAll at hall
    refine (value_5 rb vs is N ih k n hk x y b o c w (by omega) (by omega) hN' hall.1 hall.2.1 hv hr).mono fun r w' ⟨h1,h2⟩=>⟨h1.trans ?_,h2⟩
    rcases hk with rfl | rfl | rfl <;> simp [Ex.val,Ex.vals,opVal]
theorem keepH {W X Y:World} {p:Nat} {x0 x1 x2 x3 x4 x5 x6:Value} (hb:Below X.heap.size X Y) (h:Below W.heap.size W X∧X.cell? ⟨p,0,none⟩=some x0∧X.cell? ⟨p,1,none⟩=some x1∧X.cell? ⟨p,2,none⟩=some x2∧X.cell? ⟨p,3,none⟩=some x3∧X.cell? ⟨p,4,none⟩=some x4∧X.cell? ⟨p,5,none⟩=some x5∧X.cell? ⟨p,6,none⟩=some x6) :
  Below W.heap.size W Y∧Y.cell? ⟨p,0,none⟩=some x0∧Y.cell? ⟨p,1,none⟩=some x1∧Y.cell? ⟨p,2,none⟩=some x2∧Y.cell? ⟨p,3,none⟩=some x3∧Y.cell? ⟨p,4,none⟩=some x4∧Y.cell? ⟨p,5,none⟩=some x5∧Y.cell? ⟨p,6,none⟩=some x6 :=
 ⟨below_seq h.1 hb,below_cell hb h.2.1,below_cell hb h.2.2.1,below_cell hb h.2.2.2.1,below_cell hb h.2.2.2.2.1,below_cell hb h.2.2.2.2.2.1,below_cell hb h.2.2.2.2.2.2.1,below_cell hb h.2.2.2.2.2.2.2⟩
set_option maxRecDepth 20000 in
set_option maxHeartbeats 4000000 in
theorem holds_any (rb:Nat) (vs is:List Int) (ck ak an bk bn:Int) (hck:1≤ck∧ck≤4) (ca cb:Ex) (aad bad:Option Addr) (am ac bm bc:Nat) (w:World) (hn:ca.nodes≤1048576) (hn':cb.nodes≤1048576) (hok:ca.Ok) (hok':cb.Ok) (hv:ValIs w rb vs is)
  (hin:ca.In w (.agg #[.int .i64 ak,.int .i64 an,.slice aad am ac])) (hin':cb.In w (.agg #[.int .i64 bk,.int .i64 bn,.slice bad bm bc])) :
  Calls Tryd.prog 149 #[.pointer (some ⟨rb,0,none⟩),.agg #[.int .i64 ck,.int .i64 ak,.int .i64 an,.slice aad am ac,.int .i64 bk,.int .i64 bn,.slice bad bm bc]] w fun r w'=>r = .returned (.bool (condVal ck (ca.val vs is) (cb.val vs is)))∧Below w.heap.size w w':=by
 have HH:Hid (ca.Ok∧ValIs w rb vs is∧ca.In w (.agg #[.int .i64 ak,.int .i64 an,.slice aad am ac])∧cb.Ok∧cb.In w (.agg #[.int .i64 bk,.int .i64 bn,.slice bad bm bc])):=⟨hok,hv,hin,hok',hin'⟩
 clear hok hv hin hok' hin'
 have hc:ck=1∨ck=2∨ck=3∨ck=4:=by omega
 clear hck
 rcases hc with rfl | rfl | rfl | rfl
 ·go_enter Tryd.func149,Tryd.ntmps149
  go_wp2_with fail
  go_region_held3 (fun w'=>Below w.heap.size w w'∧w'.cell? ⟨w.heap.size,0,none⟩=some (.int .i64 1)∧w'.cell? ⟨w.heap.size,1,none⟩=some (.int .i64 ak)∧w'.cell? ⟨w.heap.size,2,none⟩=some (.int .i64 an)∧w'.cell? ⟨w.heap.size,3,none⟩=some (.slice aad am ac)∧w'.cell? ⟨w.heap.size,4,none⟩=some (.int .i64 bk)∧w'.cell? ⟨w.heap.size,5,none⟩=some (.int .i64 bn)∧w'.cell? ⟨w.heap.size,6,none⟩=some (.slice bad bm bc))
   (first | assumption | (refine ⟨((Below.refl _ _).alloc (Nat.le_refl _) _).drew,?_,?_,?_,?_,?_,?_,?_⟩ <;> simp [go_sem]))
   (first
    | (go_at_call_of 148 ak;refine (value_any rb vs is 1048577 ca _ _ (by omega) (by omega) HH.out.1 (HH.out.2.1.below (And.left ‹Below w.heap.size w _∧_›)) (HH.out.2.2.1.below (And.left ‹Below w.heap.size w _∧_›))).mono ?_;rintro r w1 ⟨rfl,hb1⟩;have hS1:=keepH hb1 ‹Below w.heap.size w _∧_›;clear hb1)
    | (go_at_call_of 148 bk;refine (value_any rb vs is 1048577 cb _ _ (by omega) (by omega) HH.out.2.2.2.1 (HH.out.2.1.below (And.left ‹Below w.heap.size w _∧_›)) (HH.out.2.2.2.2.below (And.left ‹Below w.heap.size w _∧_›))).mono ?_;rintro r w2 ⟨rfl,hb2⟩;have hS2:=keepH hb2 ‹Below w.heap.size w _∧_›;clear hb2))
  obtain ⟨hB,c0',-⟩:=‹Below w.heap.size w _∧_›
  have HB:Hid _:=hB
  clear hB
  go_wp2_with fail
  go_ret
  exact ⟨ret_bool (by simp [condVal]),HB.out⟩
 ·go_enter Tryd.func149,Tryd.ntmps149
  go_wp2_with fail
  go_region_held3 (fun w'=>Below w.heap.size w w'∧w'.cell? ⟨w.heap.size,0,none⟩=some (.int .i64 2)∧w'.cell? ⟨w.heap.size,1,none⟩=some (.int .i64 ak)∧w'.cell? ⟨w.heap.size,2,none⟩=some (.int .i64 an)∧w'.cell? ⟨w.heap.size,3,none⟩=some (.slice aad am ac)∧w'.cell? ⟨w.heap.size,4,none⟩=some (.int .i64 bk)∧w'.cell? ⟨w.heap.size,5,none⟩=some (.int .i64 bn)∧w'.cell? ⟨w.heap.size,6,none⟩=some (.slice bad bm bc))
   (first | assumption | (refine ⟨((Below.refl _ _).alloc (Nat.le_refl _) _).drew,?_,?_,?_,?_,?_,?_,?_⟩ <;> simp [go_sem]))
   (first
    | (go_at_call_of 148 ak;refine (value_any rb vs is 1048577 ca _ _ (by omega) (by omega) HH.out.1 (HH.out.2.1.below (And.left ‹Below w.heap.size w _∧_›)) (HH.out.2.2.1.below (And.left ‹Below w.heap.size w _∧_›))).mono ?_;rintro r w1 ⟨rfl,hb1⟩;have hS1:=keepH hb1 ‹Below w.heap.size w _∧_›;clear hb1)
    | (go_at_call_of 148 bk;refine (value_any rb vs is 1048577 cb _ _ (by omega) (by omega) HH.out.2.2.2.1 (HH.out.2.1.below (And.left ‹Below w.heap.size w _∧_›)) (HH.out.2.2.2.2.below (And.left ‹Below w.heap.size w _∧_›))).mono ?_;rintro r w2 ⟨rfl,hb2⟩;have hS2:=keepH hb2 ‹Below w.heap.size w _∧_›;clear hb2))
  obtain ⟨hB,c0',-⟩:=‹Below w.heap.size w _∧_›
  have HB:Hid _:=hB
  clear hB
  go_wp2_with fail
  go_ret
  exact ⟨ret_bool (by simp [condVal];rfl),HB.out⟩
 ·go_enter Tryd.func149,Tryd.ntmps149
  go_wp2_with fail
  go_region_held3 (fun w'=>Below w.heap.size w w'∧w'.cell? ⟨w.heap.size,0,none⟩=some (.int .i64 3)∧w'.cell? ⟨w.heap.size,1,none⟩=some (.int .i64 ak)∧w'.cell? ⟨w.heap.size,2,none⟩=some (.int .i64 an)∧w'.cell? ⟨w.heap.size,3,none⟩=some (.slice aad am ac)∧w'.cell? ⟨w.heap.size,4,none⟩=some (.int .i64 bk)∧w'.cell? ⟨w.heap.size,5,none⟩=some (.int .i64 bn)∧w'.cell? ⟨w.heap.size,6,none⟩=some (.slice bad bm bc))
   (first | assumption | (refine ⟨((Below.refl _ _).alloc (Nat.le_refl _) _).drew,?_,?_,?_,?_,?_,?_,?_⟩ <;> simp [go_sem]))
   (first
    | (go_at_call_of 148 ak;refine (value_any rb vs is 1048577 ca _ _ (by omega) (by omega) HH.out.1 (HH.out.2.1.below (And.left ‹Below w.heap.size w _∧_›)) (HH.out.2.2.1.below (And.left ‹Below w.heap.size w _∧_›))).mono ?_;rintro r w1 ⟨rfl,hb1⟩;have hS1:=keepH hb1 ‹Below w.heap.size w _∧_›;clear hb1)
    | (go_at_call_of 148 bk;refine (value_any rb vs is 1048577 cb _ _ (by omega) (by omega) HH.out.2.2.2.1 (HH.out.2.1.below (And.left ‹Below w.heap.size w _∧_›)) (HH.out.2.2.2.2.below (And.left ‹Below w.heap.size w _∧_›))).mono ?_;rintro r w2 ⟨rfl,hb2⟩;have hS2:=keepH hb2 ‹Below w.heap.size w _∧_›;clear hb2))
  obtain ⟨hB,c0',-⟩:=‹Below w.heap.size w _∧_›
  have HB:Hid _:=hB
  clear hB
  go_wp2_with fail
  go_ret
  exact ⟨ret_bool (by simp [condVal];rfl),HB.out⟩
 ·go_enter Tryd.func149,Tryd.ntmps149
  go_wp2_with fail
  go_region_held3 (fun w'=>Below w.heap.size w w'∧w'.cell? ⟨w.heap.size,0,none⟩=some (.int .i64 4)∧w'.cell? ⟨w.heap.size,1,none⟩=some (.int .i64 ak)∧w'.cell? ⟨w.heap.size,2,none⟩=some (.int .i64 an)∧w'.cell? ⟨w.heap.size,3,none⟩=some (.slice aad am ac)∧w'.cell? ⟨w.heap.size,4,none⟩=some (.int .i64 bk)∧w'.cell? ⟨w.heap.size,5,none⟩=some (.int .i64 bn)∧w'.cell? ⟨w.heap.size,6,none⟩=some (.slice bad bm bc))
   (first | assumption | (refine ⟨((Below.refl _ _).alloc (Nat.le_refl _) _).drew,?_,?_,?_,?_,?_,?_,?_⟩ <;> simp [go_sem]))
   (first
    | (go_at_call_of 148 ak;refine (value_any rb vs is 1048577 ca _ _ (by omega) (by omega) HH.out.1 (HH.out.2.1.below (And.left ‹Below w.heap.size w _∧_›)) (HH.out.2.2.1.below (And.left ‹Below w.heap.size w _∧_›))).mono ?_;rintro r w1 ⟨rfl,hb1⟩;have hS1:=keepH hb1 ‹Below w.heap.size w _∧_›;clear hb1)
    | (go_at_call_of 148 bk;refine (value_any rb vs is 1048577 cb _ _ (by omega) (by omega) HH.out.2.2.2.1 (HH.out.2.1.below (And.left ‹Below w.heap.size w _∧_›)) (HH.out.2.2.2.2.below (And.left ‹Below w.heap.size w _∧_›))).mono ?_;rintro r w2 ⟨rfl,hb2⟩;have hS2:=keepH hb2 ‹Below w.heap.size w _∧_›;clear hb2))
  obtain ⟨hB,c0',-⟩:=‹Below w.heap.size w _∧_›
  have HB:Hid _:=hB
  clear hB
  go_wp2_with fail
  go_ret
  exact ⟨ret_bool (by simp [condVal]),HB.out⟩
structure Fl where
 s:St
 d:Int
 ls:List Int
def locksIn (k n:Int) (ls:List Int):List Int:=if k=6 then ls++[n] else ls
mutual
def St.flat:St→Int→List Int→List Fl
 | .mk k n e ck ca cb b l,d,ls=>⟨.mk k n e ck ca cb b l,d,ls⟩::(St.flatAll b (d+1) (locksIn k n ls)++St.flatAll l (d+1) (locksIn k n ls))
def St.flatAll:List St→Int→List Int→List Fl
 | [],_,_=>[]
 | s::r,d,ls=>s.flat d ls++St.flatAll r d ls
end
end Go.Proofs.YtnkgbkkakokciacDoor.B
namespace Go.Proofs.YtnkgbkkakokciacDoor.B
open Go.ChangeShapes Go.WideShapes Go.ChangeAt Go.RowKit
theorem info3:(Tryd.prog.info? 3).map (fun i=>(i.zero,i.size,i.bytes))=some (some (.int .i64 0),1,8):=by kernel_rfl
def intVs (l:List Int):List Value:=l.map fun z=>.int .i64 z
end Go.Proofs.YtnkgbkkakokciacDoor.B
