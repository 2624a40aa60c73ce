import Derived.Test.YtnkgbkkakokciacDoorGAny
import Derived.Test.YtnkgbkkakokciacDoorGKinds
import Derived.Test.YtnkgbkkakokciacDoorGJumps
import Derived.Deep.RegionHeldLaw
namespace Go.Proofs.YtnkgbkkakokciacDoor.B
open Go.ChangeShapes Go.WideShapes Go.ChangeAt Go.RowKit
structure Nd where
 s:St
 o:Nat
 n:Nat
mutual
def St.num:St→Nat→List Nd
 | .mk k n e ck ca cb b l,at_=>⟨.mk k n e ck ca cb b l,at_+1+St.countAll b,at_+1+St.countAll b+St.countAll l⟩::(St.numAll b (at_+1)++St.numAll l (at_+1+St.countAll b))
def St.numAll:List St→Nat→List Nd
 | [],_=>[]
 | x::r,at_=>St.num x at_++St.numAll r (at_+x.count)
end
mutual
theorem St.num_length:∀ (x:St) (at_:Nat),(St.num x at_).length=x.count
 | .mk k n e ck ca cb b l,at_=>by
  unfold St.num St.count
  simp only [List.length_cons,List.length_append,St.numAll_length b,St.numAll_length l]
  omega
theorem St.numAll_length:∀ (a:List St) (at_:Nat),(St.numAll a at_).length=St.countAll a
 | [],at_=>by simp [St.numAll,St.countAll]
 | x::r,at_=>by
  unfold St.numAll St.countAll
  simp only [List.length_append,St.num_length x,St.numAll_length r]
end
theorem numAll_take:∀ (a:List St) (j:Nat) (h:j<a.length) (at_:Nat),St.numAll (a.take (j+1)) at_=St.numAll (a.take j) at_++St.num a[j] (at_+St.countAll (a.take j))
 | [],j,h,_=>by simp at h
 | x::r,0,h,at_=>by simp [St.numAll,St.countAll]
 | x::r,j+1,h,at_=>by
  have:=numAll_take r j (by simpa using h) (at_+x.count)
  simp only [List.take_succ_cons,St.numAll,List.getElem_cons_succ,St.countAll,List.append_assoc]
  rw [this,Nat.add_assoc]
def Nd.Cells (w0:World):List Nd→List Value→Prop
 | [],xs=>xs=[]
 | f::r,xs=>∃ x:Nat→Value,∃ ys,xs=[x 0,x 1,x 2,x 3,x 4,x 5,x 6,x 7,x 8,x 9,x 10,x 11,x 12,x 13,.int .i64 f.o,.int .i64 f.n]++ys∧f.s.In w0 (stVal x)∧Nd.Cells w0 r ys
theorem Nd.Cells.append {w0:World}:∀ (a b:List Nd) {xs ys:List Value},Nd.Cells w0 a xs→Nd.Cells w0 b ys→Nd.Cells w0 (a++b) (xs++ys)
 | [],b,xs,ys,h,h'=>by unfold Nd.Cells at h;subst h;exact h'
 | e::r,b,xs,ys,h,h'=>by
  obtain ⟨x,zs,rfl,h1,h3⟩:=h
  exact ⟨x,zs++ys,by simp,h1,Nd.Cells.append r b h3 h'⟩
theorem Nd.Cells.len {w0:World}:∀ (a:List Nd) {xs:List Value},Nd.Cells w0 a xs→xs.length=a.length*16
 | [],_,h=>by unfold Nd.Cells at h;subst h;rfl
 | e::r,xs,h=>by
  obtain ⟨x,zs,rfl,h1,h3⟩:=h
  have:=Nd.Cells.len r h3
  simp;omega
theorem Nd.Cells.split {w0:World}:∀ (a b:List Nd) {xs:List Value},Nd.Cells w0 (a++b) xs→∃ ys zs,xs=ys++zs∧Nd.Cells w0 a ys∧Nd.Cells w0 b zs
 | [],b,xs,h=>⟨[],xs,rfl,rfl,h⟩
 | e::r,b,xs,h=>by
  obtain ⟨x,zs,rfl,h1,h3⟩:=h
  obtain ⟨ys,zs',rfl,g1,g2⟩:=Nd.Cells.split r b h3
  exact ⟨_,zs',by simp,⟨x,ys,rfl,h1,g1⟩,g2⟩
theorem set_mid {α:Type} (ys zs:List α) (i:Nat) (u:α):(ys++zs).set (ys.length+i) u=ys++zs.set i u:=by
 rw [List.set_append,if_neg (by omega),Nat.add_sub_cancel_left]
theorem Nd.Cells.setO {w0:World} {a b:List Nd} {f:Nd} {xs:List Value} (h:Nd.Cells w0 (a++f::b) xs) (o:Nat):Nd.Cells w0 (a++⟨f.s,o,f.n⟩::b) (xs.set (a.length*16+14) (.int .i64 o)):=by
 obtain ⟨ys,zs,rfl,h1,x,zs',rfl,h2,h3⟩:=Nd.Cells.split a (f::b) h
 rw [← h1.len,set_mid]
 exact Nd.Cells.append a _ h1 ⟨x,zs',by simp,h2,h3⟩
theorem Nd.Cells.setN {w0:World} {a b:List Nd} {f:Nd} {xs:List Value} (h:Nd.Cells w0 (a++f::b) xs) (n:Nat):Nd.Cells w0 (a++⟨f.s,f.o,n⟩::b) (xs.set (a.length*16+15) (.int .i64 n)):=by
 obtain ⟨ys,zs,rfl,h1,x,zs',rfl,h2,h3⟩:=Nd.Cells.split a (f::b) h
 rw [← h1.len,set_mid]
 exact Nd.Cells.append a _ h1 ⟨x,zs',by simp,h2,h3⟩
theorem Nd.Cells.at {w0:World} {a b:List Nd} {f:Nd} {xs:List Value} (h:Nd.Cells w0 (a++f::b) xs):∃ x:Nat→Value,f.s.In w0 (stVal x)∧(∀ i,i<14→xs[a.length*16+i]?=some (x i))∧xs[a.length*16+14]?=some (.int .i64 f.o)∧xs[a.length*16+15]?=some (.int .i64 f.n):=by
 obtain ⟨ys,zs,rfl,h1,x,zs',rfl,h2,h3⟩:=Nd.Cells.split a (f::b) h
 have at_:∀ i u,([x 0,x 1,x 2,x 3,x 4,x 5,x 6,x 7,x 8,x 9,x 10,x 11,x 12,x 13,.int .i64 f.o,.int .i64 f.n]++zs')[i]?=some u→(ys++([x 0,x 1,x 2,x 3,x 4,x 5,x 6,x 7,x 8,x 9,x 10,x 11,x 12,x 13,.int .i64 f.o,.int .i64 f.n]++zs'))[a.length*16+i]?=some u:=by
  intro i u hu
  rw [← h1.len,List.getElem?_append_right (by omega),show ys.length+i - ys.length=i by omega]
  exact hu
 refine ⟨x,h2,fun i hi=>at_ i _ ?_,at_ 14 _ rfl,at_ 15 _ rfl⟩
 match i,hi with
 | 0,_ | 1,_ | 2,_ | 3,_ | 4,_ | 5,_ | 6,_ | 7,_ | 8,_ | 9,_ | 10,_ | 11,_ | 12,_ | 13,_=>rfl
structure GR (w w':World) (v v':Value):Prop where
 os:w'.os=w.os
 tape:w'.tape=w.tape
 output:w'.output=w.output
 size:w.heap.size≤w'.heap.size
 block:∀ k,k<w.heap.size→some k≠v.ownBlock→w'.heap[k]?=w.heap[k]?
 own:v'.ownBlock=v.ownBlock∨∀ k,v'.ownBlock=some k→w.heap.size≤k
theorem GR.refl (w:World) (v:Value):GR w w v v:=⟨rfl,rfl,rfl,Nat.le_refl _,fun _ _ _=>rfl,.inl rfl⟩
theorem GR.trans {a b c:World} {u v x:Value} (h:GR a b u v) (h':GR b c v x):GR a c u x:=by
 refine ⟨h'.os.trans h.os,h'.tape.trans h.tape,h'.output.trans h.output,Nat.le_trans h.size h'.size,fun k hk h2=>?_,?_⟩
 ·refine (h'.block k (by have:=h.size;omega) fun e=>?_).trans (h.block k hk h2)
  rcases h.own with ho | ho
  ·exact h2 (e.trans ho)
  ·have:=ho k e.symm;omega
 ·rcases h'.own with ho' | ho'
  ·rw [ho'];exact h.own
  ·right;intro k hk;have:=ho' k hk;have:=h.size;omega
theorem GR.of_below {a b:World} {v:Value} (h:Below a.heap.size a b):GR a b v v:=⟨h.os,h.tape,h.output,h.size,fun k hk _=>h.block k hk,.inl rfl⟩
theorem GR.of_grown {w w':World} {v v':Value} (hg:w.grownBy w' v.ownBlock) (hv:v'.ownBlock=v.ownBlock∨∀ k,v'.ownBlock=some k→w.heap.size≤k):GR w w' v v' :=
 ⟨hg.os,hg.tape,hg.output,hg.size,fun k hk h=>World.grownBy.block hg k hk h,hv⟩
theorem GR.low {w0 w w':World} {v v':Value} {B n:Nat} {xs:List Value} (h:GR w w' v v') (ho:w.ownsRow B 177 16 v n xs) (hB:w0.heap.size≤B) (hb:Below w0.heap.size w0 w):Below w0.heap.size w0 w' :=
 hb.trans ⟨h.os,h.tape,h.output,h.size,fun k hk=>h.block k (by have:=hb.size;omega) fun e=>by have:=(ho.lt k e.symm).1;omega⟩
theorem GR.off {w w':World} {v v':Value} (h:GR w w' v v') {p:Nat} (hl:p<w.heap.size) (hq:some p≠v.ownBlock):some p≠v'.ownBlock:=by
 intro e
 rcases h.own with ho | ho
 ·exact hq (e.trans ho)
 ·have:=ho p e.symm;omega
theorem info42:(Tryd.prog.info? 43).map (fun i=>(i.zero,i.size,i.bytes))=some (some (.agg #[.int .i64 0,.int .i64 0]),2,16):=by kernel_rfl
theorem Rn.putted {w w7:World} {rb vb B vc:Nat} {T:TypeId} {iv x4 pv v3:Value} {s:Ms} {o:Obj} {n z:Int} (h:Rn w rb vb B vc T iv x4 pv s) (hown:w7.ownsRow B 43 2 v3 (s.puts.length+1) (putVs s.puts++[.int .i64 n,.int .i64 z])) (hg:(w.alloc o).grownBy w7 pv.ownBlock)
  (hv:v3.ownBlock=pv.ownBlock∨∀ k,v3.ownBlock=some k→(w.alloc o).heap.size≤k) :
  (Rn (w7.setCell ⟨rb,1,none⟩ v3) rb vb B vc T iv x4 v3 { s with puts:=s.puts++[(n,z)] }∧RR rb vb w (w7.setCell ⟨rb,1,none⟩ v3) pv v3)∧w7.cell? ⟨rb,1,none⟩=some pv∧(∀ j,w7.frozen? ⟨rb,j,none⟩=false)∧∀ k,k<w.heap.size→some k≠pv.ownBlock→w7.heap[k]?=w.heap[k]?:=by
 have hr:some rb≠pv.ownBlock:=fun e=>by have:=(h.own_lt rb e.symm).1;have:=h.ltr;omega
 have hvb:some vb≠pv.ownBlock:=fun e=>by have:=(h.own_lt vb e.symm).1;have:=h.ltv;omega
 have old:∀ k,k<w.heap.size→some k≠pv.ownBlock→w7.heap[k]?=w.heap[k]?:=fun k hk hq=>(World.grownBy.block hg k (by simp;omega) hq).trans (Below.heap_alloc _ _ _ hk)
 have b7:=(old rb (Array.getElem?_eq_some_iff.1 h.blk).1 hr).trans h.blk
 obtain ⟨hl,cs,h1,h2,h3⟩:=h.vars
 have c7:=(old vb (Array.getElem?_eq_some_iff.1 h1).1 hvb).trans h1
 have hs:w.heap.size≤w7.heap.size:=by have:=hg.size;simp at this;omega
 refine ⟨⟨⟨by simpa using setCell_at (i:=1) (u:=v3) b7,⟨hl,cs,(Below.heap_setCell _ _ _ _ (by simpa using h.ne.symm)).trans c7,h2,h3⟩,?_,h.ltr,h.ltv,h.ne,by rw [set_size];have:=h.le;omega⟩,?_⟩,?_,?_,old⟩
 ·have:=ownsRow_setCell_below hown (a:=⟨rb,1,none⟩) (by show rb<B;exact h.ltr) v3
  simpa [putVs_snoc] using this
 ·refine ⟨hg.os,hg.tape,hg.output,by rw [set_size];exact hs,fun k hk h1 _ h3=>(Below.heap_setCell _ _ _ _ (by simpa using h1)).trans (old k hk h3),?_⟩
  rcases hv with hv | hv
  ·exact .inl hv
  ·right;intro k hk;have:=hv k hk;simp at this;omega
 ·unfold World.cell?;rw [b7];rfl
 ·intro j;unfold World.frozen?;rw [b7];simp
end Go.Proofs.YtnkgbkkakokciacDoor.B
namespace Go.Proofs.YtnkgbkkakokciacDoor
open Go.ChangeShapes Go.WideShapes Go.ChangeAt Go.RowKit
theorem MM.pushed {w w4:World} {mb B:Nat} {l:List In} {iv ov:Value} {ins:List Int} {sp:Int} {s:MS} {sv pv:Value} {z:Int} {ad4:Option Addr} {c4:Nat} (h:MM w mb B l iv ov ins sp s sv pv) (ho4:w4.ownsRow B 3 1 (.slice ad4 (s.st.length+1) c4) (s.st.length+1) (intVs (s.st++[z]))) (hg4:(w.alloc (.cells #[.int .i64 z] 3)).grownBy w4 sv.ownBlock) (hv4:(Value.slice ad4 (s.st.length+1) c4).ownBlock=sv.ownBlock∨∀ k,(Value.slice ad4 (s.st.length+1) c4).ownBlock=some k→(w.alloc (.cells #[.int .i64 z] 3)).heap.size≤k) :
  MM (w4.setCell ⟨mb,21,none⟩ (.slice ad4 (s.st.length+1) c4)) mb B l iv ov ins sp { s with st:=s.st++[z] } (.slice ad4 (s.st.length+1) c4) pv∧MR mb w (w4.setCell ⟨mb,21,none⟩ (.slice ad4 (s.st.length+1) c4)) sv pv (.slice ad4 (s.st.length+1) c4) pv∧mb<w4.heap.size∧w4.cell? ⟨mb,21,none⟩=some sv∧∀ j,w4.frozen? ⟨mb,j,none⟩=false:=by
 have hn:=h.nmb
 have hb4:=(hg4.block mb (by have:=h.lt;simp;omega) (fun e=>by have:=(h.stk.lt mb e.symm).1;omega)).trans (h.grow (below_new w _)).blk
 obtain ⟨p1,p2⟩:=(h.grow (below_new w (.cells #[.int .i64 z] 3))).pushS hg4 (st':=s.st++[z]) (by rw [List.length_append];exact ho4) hv4
 exact ⟨p1,(MR.of_below (below_new w _)).trans p2,(cells_of hb4).2.2,(cells_of hb4).1 _ _ (machVs_rest h.lv h.li h.lc 0),(cells_of hb4).2.1⟩
set_option maxRecDepth 20000 in
set_option maxHeartbeats 4000000 in
theorem push_any (w:World) (mb B:Nat) (l:List In) (iv ov:Value) (ins:List Int) (sp:Int) (s:MS) (sv pv:Value) (z:Int) (h:MM w mb B l iv ov ins sp s sv pv) (hl:s.st.length≤4000000) :
  Calls Tryd.prog 84 #[.pointer (some ⟨mb,0,none⟩),.int .i64 z] w fun r w'=>r = .returned (.tuple #[])∧∃ sv',MM w' mb B l iv ov ins sp { s with st:=s.st++[z] } sv' pv∧MR mb w w' sv pv sv' pv:=by
 have lm:=h.lt
 have c21:=h.c_sv
 have f21:=h.cells.2.1
 have HM:Hid (MM w mb B l iv ov ins sp s sv pv):=h
 have hbas:=h.bas
 clear h
 go_enter Tryd.func84,Tryd.ntmps84
 go_wp2_with (at_builtin;refine wp_push2 rfl (.tmp 8) (.tmp 10) rfl B sv s.st z w.heap.size s.st.length rfl rfl rfl rfl HM.out.stk hbas hl ?_;intro ad4 c4 w4 ho4 hg4 hv4;obtain ⟨p1,p2,l4,x4,f4⟩:=HM.out.pushed ho4 hg4 hv4;have HP:Hid (MM _ _ _ _ _ _ _ _ _ _ _∧MR _ _ _ _ _ _ _):=⟨p1,p2⟩;clear ho4 hg4 hv4 p1 p2)
 go_end0
 exact ⟨rfl,_,HP.out.1,HP.out.2⟩
set_option maxRecDepth 20000 in
set_option maxHeartbeats 4000000 in
theorem pop_any (w:World) (mb B:Nat) (l:List In) (iv ov:Value) (ins:List Int) (sp:Int) (s:MS) (sv pv:Value) (n:Nat) (h:MM w mb B l iv ov ins sp s sv pv) (hn:s.st.length=n+1) (hl:n≤4000000) :
  Calls Tryd.prog 85 #[.pointer (some ⟨mb,0,none⟩)] w fun r w'=>r = .returned (.int .i64 s.top)∧∃ sv',MM w' mb B l iv ov ins sp { s with st:=s.st.dropLast } sv' pv∧MR mb w w' sv pv sv' pv:=by
 have lm:=h.lt
 have c21:=h.c_sv
 have f21:=h.cells.2.1
 obtain ⟨b,o,c,rfl,ctop,lb,nb,hc⟩:=h.tops hn
 have HM:Hid (MM w mb B l iv ov ins sp s (.slice (some ⟨b,o,none⟩) (n+1) c) pv):=h
 clear h
 go_enter Tryd.func85,Tryd.ntmps85
 go_wp2_with fail
 go_ret
 exact ⟨rfl,_,(HM.out.pop hn).1,(HM.out.pop hn).2⟩
section
variable (w:World) (mb B:Nat) (l:List In) (iv ov:Value) (ins:List Int) (sp:Int) (s:MS) (sv pv:Value)
set_option maxRecDepth 20000 in
set_option maxHeartbeats 4000000 in
theorem over_11 (a b:Int):Calls Tryd.prog 48 #[.pointer (some ⟨mb,0,none⟩),.agg #[.int .i64 11,.int .i64 a,.int .i64 b]] w fun r w'=>r = .returned (.bool true)∧Below w.heap.size w w':=by
 go_enter Tryd.func48,Tryd.ntmps48
 go_wp2_with fail
 go_ret
 exact ⟨rfl,below_new _ _⟩
set_option maxRecDepth 20000 in
set_option maxHeartbeats 4000000 in
theorem over_12 (a b:Int) (n:Nat) (h:MM w mb B l iv ov ins sp s sv pv) (hn:s.st.length=n+1) (hl:n≤4000000):Calls Tryd.prog 48 #[.pointer (some ⟨mb,0,none⟩),.agg #[.int .i64 12,.int .i64 a,.int .i64 b]] w fun r w'=>r = .returned (.bool (s.top == 0))∧Below w.heap.size w w':=by
 have lm:=h.lt
 have c21:=h.c_sv
 obtain ⟨b',o,c,rfl,ctop,lb,nb,hc⟩:=h.tops hn
 clear h
 generalize s.top=tp at *
 go_enter Tryd.func48,Tryd.ntmps48
 go_wp2_with fail
 go_quiet (fail)
 go_wp2_with fail
 go_ret
 exact ⟨rfl,below_seq' (below_new _ _)⟩
set_option maxRecDepth 20000 in
set_option maxHeartbeats 4000000 in
theorem over_14 (m:Nat) (b:Int) (h:MM w mb B l iv ov ins sp s sv pv) (hm:m<8):Calls Tryd.prog 48 #[.pointer (some ⟨mb,0,none⟩),.agg #[.int .i64 14,.int .i64 (m:Int),.int .i64 b]] w fun r w'=>r = .returned (.bool (decide (0<s.cs.getD m 0)))∧Below w.heap.size w w':=by
 have lm:=h.lt
 have cc:=h.c_cs hm
 rw [Nat.add_comm] at cc
 clear h
 generalize s.cs.getD m 0=tp at *
 go_enter Tryd.func48,Tryd.ntmps48
 go_wp2_with fail
 go_quiet (fail)
 go_wp2_with fail
 go_ret
 exact ⟨rfl,below_seq' (below_new _ _)⟩
set_option maxRecDepth 20000 in
set_option maxHeartbeats 4000000 in
theorem over_other (op a b:Int) (h1:op≠11) (h2:op≠12) (h3:op≠14):Calls Tryd.prog 48 #[.pointer (some ⟨mb,0,none⟩),.agg #[.int .i64 op,.int .i64 a,.int .i64 b]] w fun r w'=>r = .returned (.bool false)∧Below w.heap.size w w':=by
 have f1:(op == 11)=false:=by simpa using h1
 have f2:(op == 12)=false:=by simpa using h2
 have f3:(op == 14)=false:=by simpa using h3
 go_enter Tryd.func48,Tryd.ntmps48
 go_wp2_with fail
 go_ret
 exact ⟨rfl,below_new _ _⟩
end
theorem over_any (w:World) (mb B:Nat) (l:List In) (iv ov:Value) (ins:List Int) (sp:Int) (s:MS) (sv pv:Value) (x:In) (h:MM w mb B l iv ov ins sp s sv pv) (hf:formErr x=0) (ht:takesOf x.op.toNat≤(s.st.length:Int)) (hl:s.st.length≤4000000) :
  Calls Tryd.prog 48 #[.pointer (some ⟨mb,0,none⟩),x.val] w fun r w'=>r = .returned (.bool (overI x s))∧Below w.heap.size w w':=by
 obtain ⟨ha,h7,-⟩:=form_a hf
 obtain ⟨op,a,b⟩:=x
 dsimp only at *
 show Calls Tryd.prog 48 #[.pointer (some ⟨mb,0,none⟩),.agg #[.int .i64 op,.int .i64 a,.int .i64 b]] w _
 unfold overI
 dsimp only
 by_cases e1:op=11
 ·subst e1
  rw [if_pos rfl]
  exact over_11 w mb a b
 rw [if_neg e1]
 by_cases e2:op=12
 ·subst e2
  rw [if_pos rfl]
  have:takesOf (Int.toNat 12)=1:=by decide
  obtain ⟨n,hn⟩:∃ n,s.st.length=n+1:=⟨s.st.length - 1,by omega⟩
  have:=over_12 w mb B l iv ov ins sp s sv pv a b n h hn (by omega)
  rwa [show (s.top == 0)=decide (s.top=0) by rfl] at this
 rw [if_neg e2]
 by_cases e3:op=14
 ·subst e3
  rw [if_pos rfl]
  obtain ⟨m,rfl⟩:∃ m:Nat,a=m:=⟨a.toNat,by omega⟩
  rw [Int.toNat_natCast]
  exact over_14 w mb B l iv ov ins sp s sv pv m b h (by have:=h7 (by omega);omega)
 rw [if_neg e3]
 exact over_other w mb op a b e1 e2 e3
end Go.Proofs.YtnkgbkkakokciacDoor
