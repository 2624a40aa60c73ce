import Derived.Test.YtnkgbkkakokciacDoorGBWorth
import Derived.Test.YtnkgbkkakokciacDoorGBTwin
import Derived.Deep.DeepCutAuto
import Derived.Deep.CutRange
import Derived.Test.YtnkgbkkakokciacDoorGBSize
import Derived.Maps.OwnSet
import Derived.Maps.Views
namespace Go.Proofs.YtnkgbkkakokciacDoor.B
open Go.ChangeShapes Go.WideShapes Go.ChangeAt Go.RowKit
theorem set_size (w:World) (a:Addr) (u:Value):(w.setCell a u).heap.size=w.heap.size:=by
 show (w.heap.modify _ _).size=_
 simp
def putVs (l:List (Int × Int)):List Value:=l.flatMap fun p=>[.int .i64 p.1,.int .i64 p.2]
theorem putVs_snoc (l:List (Int × Int)) (p:Int × Int):putVs (l++[p])=putVs l++[.int .i64 p.1,.int .i64 p.2]:=by
 simp [putVs]
def VarBlk (w:World) (vb vc:Nat) (vs:List Int):Prop:=vs.length=8∧∃ cs:Array Value,w.heap[vb]?=some (.cells cs 3 (0,0))∧(8≤vc∧vc≤cs.size)∧∀ j,j<8→cs[j]?=some (.int .i64 (vs.getD j 0))
structure Rn (w:World) (rb vb B vc:Nat) (T:TypeId) (iv x4 pv:Value) (s:Ms):Prop where
 blk:w.heap[rb]?=some (.cells #[.slice (some ⟨vb,0,none⟩) 8 vc,pv,.int .i64 s.steps,iv,x4] T (0,0))
 vars:VarBlk w vb vc s.vars
 puts:w.ownsRow B 43 2 pv s.puts.length (putVs s.puts)
 ltr:rb<B
 ltv:vb<B
 ne:rb≠vb
 le:B≤w.heap.size
structure RR (rb vb:Nat) (w w':World) (v v':Value):Prop where
 os:w'.os=w.os
 tape:w'.tape=w.tape
 output:w'.output=w.output
 size:w.heap.size≤w'.heap.size
 block:∀ k,k<w.heap.size→k≠rb→k≠vb→some k≠v.ownBlock→w'.heap[k]?=w.heap[k]?
 own:v'.ownBlock=v.ownBlock∨∀ k,v'.ownBlock=some k→w.heap.size≤k
theorem RR.refl (rb vb:Nat) (w:World) (v:Value):RR rb vb w w v v:=⟨rfl,rfl,rfl,Nat.le_refl _,fun _ _ _ _ _=>rfl,.inl rfl⟩
theorem RR.trans {rb vb:Nat} {a b c:World} {u v x:Value} (h:RR rb vb a b u v) (h':RR rb vb b c v x):RR rb vb a c u x:=by
 refine ⟨h'.os.trans h.os,h'.tape.trans h.tape,h'.output.trans h.output,Nat.le_trans h.size h'.size,fun k hk h1 h1' h2=>?_,?_⟩
 ·refine (h'.block k (by have:=h.size;omega) h1 h1' fun e=>?_).trans (h.block k hk h1 h1' h2)
  rcases h.own with ho | ho
  ·exact h2 (e.trans ho)
  ·have:=ho k e.symm;omega
 ·rcases h'.own with ho' | ho'
  ·rw [ho'];exact h.own
  ·right;intro k hk;have:=ho' k hk;have:=h.size;omega
theorem RR.of_below {rb vb:Nat} {a b:World} {v:Value} (h:Below a.heap.size a b):RR rb vb a b v v:=⟨h.os,h.tape,h.output,h.size,fun k hk _ _ _=>h.block k hk,.inl rfl⟩
section
variable {w w' w0:World} {rb vb B vc:Nat} {T:TypeId} {iv x4 pv pv':Value} {s:Ms}
theorem Rn.own_lt (h:Rn w rb vb B vc T iv x4 pv s):∀ k,pv.ownBlock=some k→B≤k∧k<w.heap.size:=h.puts.lt
theorem Rn.below (h:Rn w rb vb B vc T iv x4 pv s) (hb:Below w.heap.size w w'):Rn w' rb vb B vc T iv x4 pv s:=by
 obtain ⟨hl,cs,h1,h2,h3⟩:=h.vars
 exact ⟨(hb.block rb (Array.getElem?_eq_some_iff.1 h.blk).1).trans h.blk,⟨hl,cs,(hb.block vb (Array.getElem?_eq_some_iff.1 h1).1).trans h1,h2,h3⟩,ownsRow_below h.puts hb,h.ltr,h.ltv,h.ne,Nat.le_trans h.le hb.size⟩
theorem RR.low (h:RR rb vb w w' pv pv') (hk:Rn w rb vb B vc T iv x4 pv s) (hr:w0.heap.size≤rb) (hv:w0.heap.size≤vb) (hb:Below w0.heap.size w0 w):Below w0.heap.size w0 w':=by
 refine hb.trans ⟨h.os,h.tape,h.output,h.size,fun k hk'=>h.block k (by have:=hb.size;omega) (by omega) (by omega) fun e=>?_⟩
 have:=(hk.own_lt k e.symm).1
 have:=hk.ltr
 omega
theorem RR.cell (h:RR rb vb w w' pv pv') {p o:Nat} {x:Value} (hp:p≠rb) (hp':p≠vb) (hq:some p≠pv.ownBlock) (hc:w.cell? ⟨p,o,none⟩=some x):w'.cell? ⟨p,o,none⟩=some x :=
 (World.cell?_of_block (h.block p (World.block_lt_of_cell? _ _ hc) hp hp' hq)).trans hc
def InsIs (w:World) (iv:Value) (is:List Int):Prop:=∃ ib io ic,iv = .slice (some ⟨ib,io,none⟩) 4 ic∧∀ j,j<4→w.cell? ⟨ib,io+j,none⟩=some (.int .i64 (is.getD j 0))
theorem Rn.val {is:List Int} (h:Rn w rb vb B vc T iv x4 pv s) (hi:InsIs w0 iv is) (hb:Below w0.heap.size w0 w):ValIs w rb s.vars is:=by
 obtain ⟨hl,cs,h1,h2,h3⟩:=h.vars
 obtain ⟨ib,io,ic,rfl,h4⟩:=hi
 refine ⟨⟨vb,vc,?_,hl,fun j hj=>?_⟩,⟨ib,io,ic,?_,fun j hj=>below_cell hb (h4 j hj)⟩⟩
 ·unfold World.cell?;rw [h.blk];rfl
 ·unfold World.cell?;rw [h1];simpa using h3 j hj
 ·unfold World.cell?;rw [h.blk];rfl
theorem Rn.cells (h:Rn w rb vb B vc T iv x4 pv s):w.cell? ⟨rb,0,none⟩=some (.slice (some ⟨vb,0,none⟩) 8 vc)∧w.cell? ⟨rb,1,none⟩=some pv∧w.cell? ⟨rb,2,none⟩=some (.int .i64 s.steps)∧w.cell? ⟨rb,3,none⟩=some iv∧w.cell? ⟨rb,4,none⟩=some x4∧(∀ j,w.frozen? ⟨rb,j,none⟩=false)∧rb<w.heap.size:=by
 refine ⟨?_,?_,?_,?_,?_,?_,(Array.getElem?_eq_some_iff.1 h.blk).1⟩
 any_goals (unfold World.cell?;rw [h.blk];rfl)
 intro j
 unfold World.frozen?
 rw [h.blk]
 simp
theorem Rn.vcells (h:Rn w rb vb B vc T iv x4 pv s):(∀ j,j<8→w.cell? ⟨vb,j,none⟩=some (.int .i64 (s.vars.getD j 0)))∧(∀ j,w.frozen? ⟨vb,j,none⟩=false)∧vb<w.heap.size:=by
 obtain ⟨hl,cs,h1,h2,h3⟩:=h.vars
 refine ⟨fun j hj=>?_,fun j=>?_,(Array.getElem?_eq_some_iff.1 h1).1⟩
 ·unfold World.cell?;rw [h1];simpa using h3 j hj
 ·unfold World.frozen?;rw [h1];simp
theorem VarBlk.other (h:VarBlk w vb vc s.vars) {a:Addr} {u:Value} (ha:vb≠a.block):VarBlk (w.setCell a u) vb vc s.vars:=by
 obtain ⟨hl,cs,h1,h2,h3⟩:=h
 exact ⟨hl,cs,(Below.heap_setCell _ _ _ _ ha).trans h1,h2,h3⟩
theorem RR.set (rb vb:Nat) (w:World) (pv:Value) (i:Nat) (u:Value) (pv':Value) (ho:pv'.ownBlock=pv.ownBlock):RR rb vb w (w.setCell ⟨rb,i,none⟩ u) pv pv' :=
 ⟨rfl,rfl,rfl,by rw [set_size];exact Nat.le_refl _,fun k _ h1 _ _=>Below.heap_setCell _ _ _ _ (by simpa using h1),.inl ho⟩
theorem Rn.stepped (h:Rn w rb vb B vc T iv x4 pv s) (n:Nat):Rn (w.setCell ⟨rb,2,none⟩ (.int .i64 n)) rb vb B vc T iv x4 pv { s with steps:=n }∧RR rb vb w (w.setCell ⟨rb,2,none⟩ (.int .i64 n)) pv pv :=
 ⟨⟨by simpa using setCell_at (i:=2) (u:=.int .i64 n) h.blk,h.vars.other (by simpa using h.ne.symm),ownsRow_setCell_below h.puts (by show rb<B;exact h.ltr) _,h.ltr,h.ltv,h.ne,by rw [set_size];exact h.le⟩,RR.set rb vb w pv 2 _ pv rfl⟩
theorem Rn.varSet (h:Rn w rb vb B vc T iv x4 pv s) (n:Nat) (hn:n<8) (z:Int):Rn (w.setCell ⟨vb,n,none⟩ (.int .i64 z)) rb vb B vc T iv x4 pv { s with vars:=s.vars.set n z }∧RR rb vb w (w.setCell ⟨vb,n,none⟩ (.int .i64 z)) pv pv:=by
 obtain ⟨hl,cs,h1,h2,h3⟩:=h.vars
 refine ⟨⟨(Below.heap_setCell _ _ _ _ (by simpa using h.ne)).trans h.blk,⟨by simpa using hl,_,setCell_at (i:=n) (u:=.int .i64 z) h1,by simpa using h2,fun j hj=>?_⟩,ownsRow_setCell_below h.puts (by show vb<B;exact h.ltv) _,h.ltr,h.ltv,h.ne,by rw [set_size];exact h.le⟩,⟨rfl,rfl,rfl,by rw [set_size];exact Nat.le_refl _,fun k _ _ h1 _=>Below.heap_setCell _ _ _ _ (by simpa using h1),.inl rfl⟩⟩
 by_cases hj':j=n
 ·subst hj'
  have:j<cs.size:=by omega
  have h8:j<s.vars.length:=by omega
  simp [this,List.getD,h8]
 ·have e1:(cs.setIfInBounds n (.int .i64 z))[j]?=cs[j]?:=by
   rw [Array.getElem?_setIfInBounds]
   simp [Ne.symm hj']
  have e2:(s.vars.set n z).getD j 0=s.vars.getD j 0:=by
   simp [List.getD,Ne.symm hj']
  show (cs.setIfInBounds n (.int .i64 z))[j]?=_
  rw [e1,e2]
  exact h3 j hj
end
mutual
def St.Ok:St→Prop
 | .mk k n e ck ca cb b l=>(1≤k∧k≤7)∧(k=1→0≤n∧n≤7∧e.Ok)∧(k=2→e.Ok)∧(k=3∨k=5→(1≤ck∧ck≤4)∧ca.Ok∧cb.Ok)∧(k=4∨k=5→0≤n∧n≤1000)∧(k≠3→l=[])∧St.OkAll b∧St.OkAll l
def St.OkAll:List St→Prop
 | []=>True
 | x::r=>x.Ok∧St.OkAll r
end
end Go.Proofs.YtnkgbkkakokciacDoor.B
namespace Go.Proofs.YtnkgbkkakokciacDoor
open Go.ChangeShapes Go.WideShapes Go.ChangeAt Go.RowKit
theorem infoI:(Tryd.prog.info? 3).map (fun i=>(i.zero,i.size,i.bytes))=some (some (.int .i64 0),1,8):=by kernel_rfl
def HtAt (w:World) (mb N:Nat) (M:Int→Option Int):Prop:=∃ D:DataW Unit,w.ownsMap Tryd.prog 3 (plainElem Tryd.prog 3) mb N D∧∀ z:Int,Maps.has D (.int .i64 z)=(M z).isSome∧D.atKey (.int .i64 z) (.lit (.int .i64 0)) = .lit (.int .i64 ((M z).getD 0))
def setH (M:Int→Option Int) (z v:Int):Int→Option Int:=fun y=>if y=z then some v else M y
theorem wf_int {z:Int} (h : -9223372036854775808≤z∧z≤9223372036854775807):(Lit.int .i64 z).wf=true:=by
 have h1:IntKind.i64.min=-9223372036854775808:=by decide
 have h2:IntKind.i64.max=9223372036854775807:=by decide
 simp [Lit.wf,h1,h2]
 omega
theorem zero3 (w:World):(zeroValue 3).run Tryd.prog w = .ok (.int .i64 0) w:=by
 obtain ⟨i0,hi0,hz0,hz1,hz2⟩:=info_parts infoI
 simp [zeroValue,typeInfo,hi0,hz0]
theorem HtAt.made (w:World):HtAt (w.alloc (.map #[] 0)) w.heap.size 0 (fun _=>none) :=
 ⟨.map [],World.ownsMap_made w _ _ _,fun _=>⟨rfl,rfl⟩⟩
theorem HtAt.look {w:World} {mb N:Nat} {M:Int→Option Int} (h:HtAt w mb N M) {z:Int} (hz : -9223372036854775808≤z∧z≤9223372036854775807) :
  (Instr.lookup 105 (.map (some mb)) (.int .i64 z) true).run Tryd.prog w = .ok (.tuple #[.int .i64 ((M z).getD 0),.bool (M z).isSome]) w:=by
 obtain ⟨D,ho,hM⟩:=h
 obtain ⟨v,ps,hrun,hv⟩:=ho.look_ok (t:=105) (e:=3) (Maps.int_keyed Tryd.underlying3) Tryd.underlying105 (zero3 w) (plainElem_int Tryd.underlying3 (wf_int (by omega))) (Maps.keyOf_int_mk Tryd.underlying3 (wf_int hz))
 rw [(hM z).2] at hv
 obtain ⟨c,rfl,hc,-⟩:=plainElem_int_inv Tryd.underlying3 hv
 simp only [Prod.mk.injEq,DataW.lit.injEq,Lit.int.injEq,true_and] at hc
 rw [(hM z).1] at hrun
 rw [hrun,← hc.1]
theorem HtAt.look1 {w:World} {mb N:Nat} {M:Int→Option Int} (h:HtAt w mb N M) {z:Int} (hz : -9223372036854775808≤z∧z≤9223372036854775807) :
  (Instr.lookup 105 (.map (some mb)) (.int .i64 z) false).run Tryd.prog w = .ok (.int .i64 ((M z).getD 0)) w:=by
 obtain ⟨D,ho,hM⟩:=h
 obtain ⟨c,hrun,hat,-⟩:=ho.lookup_int (t:=105) (e:=3) (Maps.int_keyed Tryd.underlying3) Tryd.underlying105 Tryd.underlying3 (zero3 w) (Maps.keyOf_int_mk Tryd.underlying3 (wf_int hz))
 rw [(hM z).2] at hat
 simp only [DataW.lit.injEq,Lit.int.injEq,true_and] at hat
 rw [hrun,hat]
theorem HtAt.set {w:World} {mb N:Nat} {M:Int→Option Int} (h:HtAt w mb N M) (hN:N<1048576) {z v:Int} (hz : -9223372036854775808≤z∧z≤9223372036854775807) (hv : -9223372036854775808≤v∧v≤9223372036854775807) :
  ∃ w',(Instr.mapUpdate 105 (.map (some mb)) (.int .i64 z) (.int .i64 v)).run Tryd.prog w = .ok () w'∧HtAt w' mb (N+1) (setH M z v)∧w.grownBy w' (some mb):=by
 obtain ⟨D,ho,hM⟩:=h
 obtain ⟨w',hrun,ho',hg⟩:=ho.update (t:=105) (e:=3) (Maps.int_keyed Tryd.underlying3) Tryd.underlying105 (by unfold maxLen;omega) (Maps.keyOf_int_mk Tryd.underlying3 (wf_int hz)) (plainElem_int Tryd.underlying3 (wf_int hv))
 refine ⟨w',hrun,⟨_,ho',fun y=>?_⟩,hg⟩
 unfold setH
 by_cases hy:y=z
 ·subst hy
  rw [if_pos rfl]
  exact ⟨Maps.has_put_same (k:=.int .i64 y) ho.isMap trivial _,Maps.atKey_put_same (k:=.int .i64 y) ho.isMap trivial _ _⟩
 ·rw [if_neg hy]
  have hne:(Lit.int .i64 y)≠(Lit.int .i64 z):=by simpa using hy
  exact ⟨(Maps.has_put_other hne _).trans (hM y).1,(Maps.atKey_put_other hne _ _).trans (hM y).2⟩
theorem HtAt.below {w w':World} {mb N:Nat} {M:Int→Option Int} (h:HtAt w mb N M) (hb:Below w.heap.size w w'):HtAt w' mb N M:=by
 obtain ⟨D,⟨es,clock,h1,r⟩,hM⟩:=h
 exact ⟨D,⟨es,clock,(hb.block mb (Array.getElem?_eq_some_iff.1 h1).1).trans h1,r⟩,hM⟩
theorem HtAt.same {w w':World} {mb N:Nat} {M:Int→Option Int} (h:HtAt w mb N M) (hb:w'.heap[mb]?=w.heap[mb]?):HtAt w' mb N M:=by
 obtain ⟨D,⟨es,clock,h1,r⟩,hM⟩:=h
 exact ⟨D,⟨es,clock,hb.trans h1,r⟩,hM⟩
def putWays (bh:Int):List Int→(Int→Option Int)→Int × (Int→Option Int)
 | [],M=>(0,M)
 | t::r,M=>if M t≠none∧M t≠some bh then (8,M) else putWays bh r (setH M t bh)
def stackStep (M:Int→Option Int) (k:Nat) (x:In):Int × (Int→Option Int) :=
 match M k with
 | none=>(7,M)
 | some h=>if h<takesOf x.op.toNat∨20<h - takesOf x.op.toNat+putsOf x.op.toNat then (8,M) else putWays (h - takesOf x.op.toNat+putsOf x.op.toNat) (waysOf k x) M
theorem takes_le {m:Nat} (h2:m≤18):0≤takesOf m∧takesOf m≤2∧0≤putsOf m∧putsOf m≤1:=by
 have:m=0∨m=1∨m=2∨m=3∨m=4∨m=5∨m=6∨m=7∨m=8∨m=9∨m=10∨m=11∨m=12∨m=13∨m=14∨m=15∨m=16∨m=17∨m=18:=by omega
 rcases this with rfl | rfl | rfl | rfl | rfl | rfl | rfl | rfl | rfl | rfl | rfl | rfl | rfl | rfl | rfl | rfl | rfl | rfl | rfl <;> decide
set_option maxRecDepth 20000 in
set_option maxHeartbeats 4000000 in
theorem stack1_none (w:World) (fb mb N:Nat) (M:Int→Option Int) (k:Nat) (op a b:Int) (hf:w.cell? ⟨fb,0,none⟩=some (.map (some mb))) (hM:HtAt w mb N M) (hk:k≤2000) (hh:M k=none) :
  Calls Tryd.prog 106 #[.int .i64 k,.agg #[.int .i64 op,.int .i64 a,.int .i64 b],.pointer (some ⟨fb,0,none⟩)] w fun r w'=>r = .returned (.int .i64 7)∧Below w.heap.size w w':=by
 have lf:fb<w.heap.size:=World.block_lt_of_cell? w _ hf
 have hlook:=(hM.below (below_new w (.cells #[.int .i64 op,.int .i64 a,.int .i64 b] 35))).look (z:=k) (by omega)
 rw [hh] at hlook
 simp only [Option.getD_none,Option.isSome_none] at hlook
 go_enter Tryd.func106,Tryd.ntmps106
 go_wp2_with fail
 go_ret
 exact ⟨rfl,below_new _ _⟩
set_option maxRecDepth 20000 in
set_option maxHeartbeats 4000000 in
theorem stack1_bad (w:World) (fb mb N:Nat) (M:Int→Option Int) (k m:Nat) (a b:Int) (hkk:KindsIn w) (hf:w.cell? ⟨fb,0,none⟩=some (.map (some mb))) (hM:HtAt w mb N M) (hk:k≤2000) (h1:1≤m) (h2:m≤18) (h:Int) (hh:M k=some h) (hr:0≤h∧h≤20) (hbad:h<takesOf m∨20<h - takesOf m+putsOf m) :
  Calls Tryd.prog 106 #[.int .i64 k,.agg #[.int .i64 m,.int .i64 a,.int .i64 b],.pointer (some ⟨fb,0,none⟩)] w fun r w'=>r = .returned (.int .i64 8)∧Below w.heap.size w w':=by
 have lf:fb<w.heap.size:=World.block_lt_of_cell? w _ hf
 have hlook:=(hM.below (below_new w (.cells #[.int .i64 m,.int .i64 a,.int .i64 b] 35))).look (z:=k) (by omega)
 rw [hh] at hlook
 simp only [Option.getD_some,Option.isSome_some] at hlook
 obtain ⟨k0,k1,k2,k3,k4,k5⟩:=hkk m h1 h2
 have l1:1<w.heap.size:=World.block_lt_of_cell? w _ k0
 obtain ⟨t1,t2,t3,t4⟩:=takes_le h2
 generalize takesOf m=tk at *
 generalize putsOf m=pt at *
 clear hkk hM
 by_cases hb1:h<tk
 ·go_enter Tryd.func106,Tryd.ntmps106
  go_wp2_with fail
  go_ret
  exact ⟨rfl,(below_new _ _).alloc (by simp) _⟩
 ·have hb2:20<h - tk+pt:=by omega
  go_enter Tryd.func106,Tryd.ntmps106
  go_wp2_with fail
  go_ret
  exact ⟨rfl,(below_new _ _).alloc (by simp) _⟩
theorem grown_trans {w w' w'':World} {row:Option Nat} (h:w.grownBy w' row) (h':w'.grownBy w'' row):w.grownBy w'' row :=
 ⟨h'.os.trans h.os,h'.tape.trans h.tape,h'.output.trans h.output,Nat.le_trans h.size h'.size,fun k hk hr=>(h'.block k (Nat.lt_of_lt_of_le hk h.size) hr).trans (h.block k hk hr)⟩
theorem HtAt.mono {w:World} {mb N N':Nat} {M:Int→Option Int} (h:HtAt w mb N M) (hn:N≤N'):HtAt w mb N' M:=by
 obtain ⟨D,h1,h2⟩:=h
 exact ⟨D,h1.mono hn,h2⟩
theorem not_map {w:World} {b o mb N:Nat} {v:Value} {M:Int→Option Int} (h:w.cell? ⟨b,o,none⟩=some v) (hM:HtAt w mb N M):b≠mb:=by
 obtain ⟨D,⟨es,clock,h1,-⟩,-⟩:=hM
 intro e
 subst e
 unfold World.cell? at h
 rw [h1] at h
 simp at h
set_option maxRecDepth 20000 in
set_option maxHeartbeats 4000000 in
theorem stack1_good (w:World) (fb mb N:Nat) (M:Int→Option Int) (k m:Nat) (a b:Int) (hkk:KindsIn w) (hf:w.cell? ⟨fb,0,none⟩=some (.map (some mb))) (hM:HtAt w mb N M) (hk:k≤2000) (h1:1≤m) (h2:m≤18) (h:Int) (hh:M k=some h) (hr:0≤h∧h≤20) (hg1:takesOf m≤h) (hg2:h - takesOf m+putsOf m≤20) (bh:Int) (hbh:h - takesOf m+putsOf m=bh) (ts:List Int) (hts:waysOf k ⟨m,a,b⟩=ts) (hlow:∀ t ∈ ts,0≤t∧t≤1000000) (hN:N≤100000) (hlen:ts.length≤2) (c:Int) (M':Int→Option Int) (hp:putWays bh ts M=(c,M')) :
  Calls Tryd.prog 106 #[.int .i64 k,.agg #[.int .i64 m,.int .i64 a,.int .i64 b],.pointer (some ⟨fb,0,none⟩)] w fun r w'=>r = .returned (.int .i64 c)∧w.grownBy w' (some mb)∧HtAt w' mb (N+2) M':=by
 have lf:fb<w.heap.size:=World.block_lt_of_cell? w _ hf
 have hlook:=(hM.below (below_new w (.cells #[.int .i64 m,.int .i64 a,.int .i64 b] 35))).look (z:=k) (by omega)
 rw [hh] at hlook
 simp only [Option.getD_some,Option.isSome_some] at hlook
 obtain ⟨k0,k1,k2,k3,k4,k5⟩:=hkk m h1 h2
 have l1:1<w.heap.size:=World.block_lt_of_cell? w _ k0
 obtain ⟨t1,t2,t3,t4⟩:=takes_le h2
 generalize takesOf m=tk at *
 generalize putsOf m=pt at *
 have HM:Hid (HtAt w mb N M):=hM
 have HT:Hid (waysOf k ⟨m,a,b⟩=ts∧(∀ t ∈ ts,0≤t∧t≤1000000)∧putWays bh ts M=(c,M')):=⟨hts,hlow,hp⟩
 clear hkk hM hts hlow hp
 go_enter Tryd.func106,Tryd.ntmps106
 go_wp2_with (go_at_call 83;refine (ways_any _ k ⟨m,a,b⟩ (by omega)).mono ?_;rw [HT.out.1];rintro r w3 ⟨⟨v3,rfl,hsl⟩,hb3⟩;obtain ⟨tad,tc,rfl,hrow⟩:=hsl;have H3:Hid (Below _ _ w3∧(ts=[]∨∃ b o,tad=some ⟨b,o,none⟩∧∀ j,j<ts.length→w3.cell? ⟨b,o+j,none⟩=some (.int .i64 (ts.getD j 0)))):=⟨hb3,hrow⟩;clear hrow hb3)
 have H4:Hid (HtAt w3 mb N M∧w3.cell? ⟨fb,0,none⟩=some (.map (some mb))∧w.grownBy w3 (some mb)):=by
  have hb:Below w.heap.size w w3:=below_seq ((below_new _ _).alloc (by simp) _) H3.out.1
  exact ⟨HM.out.below hb,below_cell hb hf,⟨hb.os,hb.tape,hb.output,hb.size,fun j hj _=>hb.block j hj⟩⟩
 go_loopw [11,12,13,45] (fun _ _ _ i wr=>∃ (j:Nat) (M1:Int→Option Int),j≤ts.length∧i = .int .i64 j∧putWays bh (ts.drop j) M1=(c,M')∧HtAt wr mb (N+j) M1∧w3.grownBy wr (some mb)) (fun _ _ _ i _=>ts.length - (intOf i).toNat)
 case atStart=>exact ⟨0,M,Nat.zero_le _,rfl,HT.out.2.2,H4.out.1,⟨rfl,rfl,rfl,Nat.le_refl _,fun _ _ _=>rfl⟩⟩
 case round =>
  obtain ⟨j,M1,hj,rfl,hput,hht,hgr⟩:=hrel
  by_cases hlt:j<ts.length
  ·rcases H3.out.2 with hx | ⟨b',o',had,hrow⟩
   ·rw [hx] at hlt;simp at hlt
   subst had
   have q:=hgr.cell (hrow j hlt) (by simpa using not_map (hrow j hlt) H4.out.1)
   have qf:=hgr.cell H4.out.2.1 (by simpa using not_map H4.out.2.1 H4.out.1)
   have hget:ts.getD j 0=ts[j]:=by rw [List.getD_eq_getElem?_getD,List.getElem?_eq_getElem hlt];rfl
   have hmem:=HT.out.2.1 (ts.getD j 0) (by rw [hget];exact List.getElem_mem hlt)
   have hdrop:ts.drop j=ts.getD j 0::ts.drop (j+1):=by rw [hget];exact List.drop_eq_getElem_cons hlt
   rw [hdrop] at hput
   generalize ts.getD j 0=t at *
   have hl2:=hht.look (z:=t) (by omega)
   have HP:Hid (putWays bh (t::ts.drop (j+1)) M1=(c,M')∧HtAt wr mb (N+j) M1∧w3.grownBy wr (some mb)):=⟨hput,hht,hgr⟩
   clear hput hht hgr hrow hget hdrop
   cases hm1:M1 t with
   | none =>
    rw [hm1] at hl2
    simp only [Option.getD_none,Option.isSome_none] at hl2
    have hp2:putWays bh (ts.drop (j+1)) (setH M1 t bh)=(c,M'):=by
     have:=HP.out.1
     unfold putWays at this
     rw [if_neg (by simp [hm1])] at this
     exact this
    obtain ⟨w5,hrun,hset,hg5⟩:=HP.out.2.1.set (by omega) (z:=t) (v:=bh) (by omega) (by omega)
    have HS:Hid (putWays bh (ts.drop (j+1)) (setH M1 t bh)=(c,M')∧HtAt w5 mb (N+j+1) (setH M1 t bh)∧wr.grownBy w5 (some mb)):=⟨hp2,hset,hg5⟩
    clear hp2 hset hg5
    go_wp2_with fail
    go_roundw
    case rel=>exact ⟨j+1,setH M1 t bh,by omega,by go_num,HS.out.1,HS.out.2.1,grown_trans HP.out.2.2 HS.out.2.2⟩
    case measure=>simp [intOf];omega
   | some o =>
    rw [hm1] at hl2
    simp only [Option.getD_some,Option.isSome_some] at hl2
    by_cases ho:o=bh
    ·subst ho
     have hp2:putWays o (ts.drop (j+1)) (setH M1 t o)=(c,M'):=by
      have:=HP.out.1
      unfold putWays at this
      rw [if_neg (by simp [hm1])] at this
      exact this
     obtain ⟨w5,hrun,hset,hg5⟩:=HP.out.2.1.set (by omega) (z:=t) (v:=o) (by omega) (by omega)
     have HS:Hid (putWays o (ts.drop (j+1)) (setH M1 t o)=(c,M')∧HtAt w5 mb (N+j+1) (setH M1 t o)∧wr.grownBy w5 (some mb)):=⟨hp2,hset,hg5⟩
     clear hp2 hset hg5
     go_wp2_with fail
     go_roundw
     case rel=>exact ⟨j+1,setH M1 t o,by omega,by go_num,HS.out.1,HS.out.2.1,grown_trans HP.out.2.2 HS.out.2.2⟩
     case measure=>simp [intOf];omega
    ·have hob:(o != bh)=true:=by simpa using ho
     have e:c=8∧M'=M1:=by
      have:=HP.out.1
      unfold putWays at this
      rw [if_pos (by simp [hm1,ho])] at this
      simpa [eq_comm] using this
     obtain ⟨rfl,rfl⟩:=e
     go_wp2_with fail
     go_ret
     exact ⟨rfl,grown_trans H4.out.2.2 HP.out.2.2,HP.out.2.1.mono (by omega)⟩
  ·have hje:j=ts.length:=by omega
   subst hje
   rw [List.drop_length] at hput
   have e:c=0∧M'=M1:=by simpa [putWays,eq_comm] using hput
   obtain ⟨rfl,rfl⟩:=e
   have HP:Hid (HtAt wr mb (N+ts.length) M'∧w3.grownBy wr (some mb)):=⟨hht,hgr⟩
   clear hht hgr hput
   go_wp2_with fail
   go_ret
   exact ⟨rfl,grown_trans H4.out.2.2 HP.out.2,HP.out.1.mono (by omega)⟩
set_option maxRecDepth 20000 in
set_option maxHeartbeats 4000000 in
theorem nested_other (w0 wF w:World) (rb wb B:Nat) (l:List In) (iv:Value) (os:List Nat) (ov:Value) (ws:List Int) (k:Nat) (op a b:Int) (h:NS w0 wF w rb wb B l iv os ov ws) (hk:k<l.length) (_hl:l.length≤2000) (ho:os.length≤2000) (h13:op≠13) (h16:op≠16) (h14:op≠14) (h17:op≠17) (h15:op≠15) :
  Calls Tryd.prog 68 #[.pointer (some ⟨rb,0,none⟩),.int .i64 k,.agg #[.int .i64 op,.int .i64 a,.int .i64 b]] w fun r w'=>r = .returned (.int .i64 0)∧∃ ov',NS w0 wF w' rb wb B l iv os ov' (ws.set k (beginOf os.getLast?)):=by
 obtain ⟨oad,oc,rfl⟩:=owns_value h.own
 have hkw:k<ws.length:=by rw [h.len];omega
 have lr:rb<w.heap.size:=(Array.getElem?_eq_some_iff.1 h.blk).1
 have lw:wb<w.heap.size:=(Array.getElem?_eq_some_iff.1 h.wth).1
 have lo:=h.ord.2.1
 have n1:¬ w.heap.size=wb:=by omega
 have n2:¬ rb=wb:=by omega
 have n3:¬ w.heap.size=rb:=by omega
 have H0:Hid (NS w0 wF w rb wb B l iv os (.slice oad os.length oc) ws):=h
 clear h
 generalize hin:beginOf os.getLast?=inn
 have HIN:Hid (beginOf os.getLast?=inn):=hin
 have f13:(op == 13)=false:=by simpa using h13
 have f16:(op == 16)=false:=by simpa using h16
 have f14:(op == 14)=false:=by simpa using h14
 have f17:(op == 17)=false:=by simpa using h17
 have f15:(op == 15)=false:=by simpa using h15
 go_enter Tryd.func68,Tryd.ntmps68
 go_wp2_with (go_at_call 101;refine (innermost_any _ rb l os _ _ _ ((H0.out.grow (below_new _ _)).rg) (by omega)).mono ?_;rintro r w1 ⟨rfl,hb1⟩;have c0:w1.cell? ⟨w.heap.size,0,none⟩=some (.int .i64 op):=below_cell hb1 (by go_simp);have c1:w1.cell? ⟨w.heap.size,1,none⟩=some (.int .i64 a):=below_cell hb1 (by go_simp);have c2:w1.cell? ⟨w.heap.size,2,none⟩=some (.int .i64 b):=below_cell hb1 (by go_simp);have H1:Hid (NS w0 wF w1 rb wb B l iv os (.slice oad os.length oc) ws):=H0.out.grow (below_seq (below_new _ _) hb1);obtain ⟨cs,fs,lt1⟩:=cells_of (l:=[_,_,_]) H1.out.blk;have k0:=cs 0 _ rfl;have k1:=cs 1 _ rfl;have k2:=cs 2 _ rfl;have fr1:=fs 1;obtain ⟨ds,es,lt2⟩:=cells_of (l:=intVs ws) H1.out.wth;have kw:=ds k (.int .i64 (ws.getD k 0)) (by simp [intVs,List.getD,hkw]);have fw:=es k;have lx:w.heap.size<w1.heap.size:=World.block_lt_of_cell? w1 _ c0;clear hb1 cs fs ds es;rw [hin];clear hin)
 go_ret
 exact ⟨rfl,_,H1.out.setW k inn⟩
set_option maxRecDepth 20000 in
set_option maxHeartbeats 4000000 in
theorem nested_stop_no (w0 wF w:World) (rb wb B:Nat) (l:List In) (iv:Value) (os:List Nat) (ov:Value) (ws:List Int) (k:Nat) (a b:Int) (h:NS w0 wF w rb wb B l iv os ov ws) (hk:k<l.length) (hl:l.length≤2000) (ho:os.length≤2000) (hq:opens l os 13 a=none) :
  Calls Tryd.prog 68 #[.pointer (some ⟨rb,0,none⟩),.int .i64 k,.agg #[.int .i64 15,.int .i64 a,.int .i64 b]] w fun r w'=>r = .returned (.int .i64 9)∧∃ ov',NS w0 wF w' rb wb B l iv os ov' (ws.set k (beginOf os.getLast?)):=by
 obtain ⟨oad,oc,rfl⟩:=owns_value h.own
 have hkw:k<ws.length:=by rw [h.len];omega
 have lr:rb<w.heap.size:=(Array.getElem?_eq_some_iff.1 h.blk).1
 have lw:wb<w.heap.size:=(Array.getElem?_eq_some_iff.1 h.wth).1
 have lo:=h.ord.2.1
 have n1:¬ w.heap.size=wb:=by omega
 have n2:¬ rb=wb:=by omega
 have n3:¬ w.heap.size=rb:=by omega
 have H0:Hid (NS w0 wF w rb wb B l iv os (.slice oad os.length oc) ws):=h
 clear h
 generalize hin:beginOf os.getLast?=inn
 have HIN:Hid (beginOf os.getLast?=inn):=hin
 go_enter Tryd.func68,Tryd.ntmps68
 go_wp2_with (go_at_call 101;refine (innermost_any _ rb l os _ _ _ ((H0.out.grow (below_new _ _)).rg) (by omega)).mono ?_;rintro r w1 ⟨rfl,hb1⟩;have c0:w1.cell? ⟨w.heap.size,0,none⟩=some (.int .i64 15):=below_cell hb1 (by go_simp);have c1:w1.cell? ⟨w.heap.size,1,none⟩=some (.int .i64 a):=below_cell hb1 (by go_simp);have c2:w1.cell? ⟨w.heap.size,2,none⟩=some (.int .i64 b):=below_cell hb1 (by go_simp);have H1:Hid (NS w0 wF w1 rb wb B l iv os (.slice oad os.length oc) ws):=H0.out.grow (below_seq (below_new _ _) hb1);obtain ⟨cs,fs,lt1⟩:=cells_of (l:=[_,_,_]) H1.out.blk;have k0:=cs 0 _ rfl;have k1:=cs 1 _ rfl;have k2:=cs 2 _ rfl;have fr1:=fs 1;obtain ⟨ds,es,lt2⟩:=cells_of (l:=intVs ws) H1.out.wth;have kw:=ds k (.int .i64 (ws.getD k 0)) (by simp [intVs,List.getD,hkw]);have fw:=es k;have lx:w.heap.size<w1.heap.size:=World.block_lt_of_cell? w1 _ c0;clear hb1 cs fs ds es;rw [hin];clear hin)
 go_wp2_with (go_at_call 102;refine (begins_any _ rb l os _ _ _ 13 a ((H1.out.setW k inn).rg) (by omega) (by omega)).mono ?_;rw [hq];rintro r w3 ⟨rfl,hb3⟩;have H3:Hid (NS w0 wF w3 rb wb B l iv os (.slice oad os.length oc) (ws.set k inn)):=(H1.out.setW k inn).grow hb3;replace c0:w3.cell? ⟨w.heap.size,0,none⟩=some (.int .i64 15):=below_cell hb3 (by go_simp);replace c1:w3.cell? ⟨w.heap.size,1,none⟩=some (.int .i64 a):=below_cell hb3 (by go_simp);replace c2:w3.cell? ⟨w.heap.size,2,none⟩=some (.int .i64 b):=below_cell hb3 (by go_simp);obtain ⟨cs,fs,lt3⟩:=cells_of (l:=[_,_,_]) H3.out.blk;replace k0:=cs 0 _ rfl;replace k1:=cs 1 _ rfl;replace k2:=cs 2 _ rfl;replace fr1:=fs 1;clear hb3 cs fs kw fw;dsimp only [beginOf])
 go_ret
 exact ⟨rfl,_,H3.out⟩
set_option maxRecDepth 20000 in
set_option maxHeartbeats 4000000 in
theorem nested_stop_yes (w0 wF w:World) (rb wb B:Nat) (l:List In) (iv:Value) (os:List Nat) (ov:Value) (ws:List Int) (k:Nat) (a b:Int) (h:NS w0 wF w rb wb B l iv os ov ws) (hk:k<l.length) (hl:l.length≤2000) (ho:os.length≤2000) (q:Nat) (hq:opens l os 13 a=some q) :
  Calls Tryd.prog 68 #[.pointer (some ⟨rb,0,none⟩),.int .i64 k,.agg #[.int .i64 15,.int .i64 a,.int .i64 b]] w fun r w'=>r = .returned (.int .i64 0)∧∃ ov',NS w0 wF w' rb wb B l iv os ov' (ws.set k (beginOf os.getLast?)):=by
 obtain ⟨oad,oc,rfl⟩:=owns_value h.own
 have hkw:k<ws.length:=by rw [h.len];omega
 have lr:rb<w.heap.size:=(Array.getElem?_eq_some_iff.1 h.blk).1
 have lw:wb<w.heap.size:=(Array.getElem?_eq_some_iff.1 h.wth).1
 have lo:=h.ord.2.1
 have n1:¬ w.heap.size=wb:=by omega
 have n2:¬ rb=wb:=by omega
 have n3:¬ w.heap.size=rb:=by omega
 have H0:Hid (NS w0 wF w rb wb B l iv os (.slice oad os.length oc) ws):=h
 clear h
 generalize hin:beginOf os.getLast?=inn
 have HIN:Hid (beginOf os.getLast?=inn):=hin
 have hz:¬ ((q:Int)+1=0):=by omega
 have hzb:(((q:Int)+1) == 0)=false:=by simpa using hz
 go_enter Tryd.func68,Tryd.ntmps68
 go_wp2_with (go_at_call 101;refine (innermost_any _ rb l os _ _ _ ((H0.out.grow (below_new _ _)).rg) (by omega)).mono ?_;rintro r w1 ⟨rfl,hb1⟩;have c0:w1.cell? ⟨w.heap.size,0,none⟩=some (.int .i64 15):=below_cell hb1 (by go_simp);have c1:w1.cell? ⟨w.heap.size,1,none⟩=some (.int .i64 a):=below_cell hb1 (by go_simp);have c2:w1.cell? ⟨w.heap.size,2,none⟩=some (.int .i64 b):=below_cell hb1 (by go_simp);have H1:Hid (NS w0 wF w1 rb wb B l iv os (.slice oad os.length oc) ws):=H0.out.grow (below_seq (below_new _ _) hb1);obtain ⟨cs,fs,lt1⟩:=cells_of (l:=[_,_,_]) H1.out.blk;have k0:=cs 0 _ rfl;have k1:=cs 1 _ rfl;have k2:=cs 2 _ rfl;have fr1:=fs 1;obtain ⟨ds,es,lt2⟩:=cells_of (l:=intVs ws) H1.out.wth;have kw:=ds k (.int .i64 (ws.getD k 0)) (by simp [intVs,List.getD,hkw]);have fw:=es k;have lx:w.heap.size<w1.heap.size:=World.block_lt_of_cell? w1 _ c0;clear hb1 cs fs ds es;rw [hin];clear hin)
 go_wp2_with (go_at_call 102;refine (begins_any _ rb l os _ _ _ 13 a ((H1.out.setW k inn).rg) (by omega) (by omega)).mono ?_;rw [hq];rintro r w3 ⟨rfl,hb3⟩;have H3:Hid (NS w0 wF w3 rb wb B l iv os (.slice oad os.length oc) (ws.set k inn)):=(H1.out.setW k inn).grow hb3;replace c0:w3.cell? ⟨w.heap.size,0,none⟩=some (.int .i64 15):=below_cell hb3 (by go_simp);replace c1:w3.cell? ⟨w.heap.size,1,none⟩=some (.int .i64 a):=below_cell hb3 (by go_simp);replace c2:w3.cell? ⟨w.heap.size,2,none⟩=some (.int .i64 b):=below_cell hb3 (by go_simp);obtain ⟨cs,fs,lt3⟩:=cells_of (l:=[_,_,_]) H3.out.blk;replace k0:=cs 0 _ rfl;replace k1:=cs 1 _ rfl;replace k2:=cs 2 _ rfl;replace fr1:=fs 1;clear hb3 cs fs kw fw;dsimp only [beginOf])
 go_ret
 exact ⟨rfl,_,H3.out⟩
set_option maxRecDepth 20000 in
set_option maxHeartbeats 4000000 in
theorem nested_13_twice (w0 wF w:World) (rb wb B:Nat) (l:List In) (iv:Value) (os:List Nat) (ov:Value) (ws:List Int) (k:Nat) (a b:Int) (h:NS w0 wF w rb wb B l iv os ov ws) (hk:k<l.length) (hl:l.length≤2000) (ho:os.length≤2000) (q:Nat) (hq:opens l os 13 a=some q) :
  Calls Tryd.prog 68 #[.pointer (some ⟨rb,0,none⟩),.int .i64 k,.agg #[.int .i64 13,.int .i64 a,.int .i64 b]] w fun r w'=>r = .returned (.int .i64 9)∧∃ ov',NS w0 wF w' rb wb B l iv os ov' (ws.set k (beginOf os.getLast?)):=by
 obtain ⟨oad,oc,rfl⟩:=owns_value h.own
 have hkw:k<ws.length:=by rw [h.len];omega
 have lr:rb<w.heap.size:=(Array.getElem?_eq_some_iff.1 h.blk).1
 have lw:wb<w.heap.size:=(Array.getElem?_eq_some_iff.1 h.wth).1
 have lo:=h.ord.2.1
 have n1:¬ w.heap.size=wb:=by omega
 have n2:¬ rb=wb:=by omega
 have n3:¬ w.heap.size=rb:=by omega
 have H0:Hid (NS w0 wF w rb wb B l iv os (.slice oad os.length oc) ws):=h
 clear h
 generalize hin:beginOf os.getLast?=inn
 have HIN:Hid (beginOf os.getLast?=inn):=hin
 have hz:¬ ((q:Int)+1=0):=by omega
 have hzb:(((q:Int)+1) == 0)=false:=by simpa using hz
 have hzn:(((q:Int)+1) != 0)=true:=by simpa using hz
 go_enter Tryd.func68,Tryd.ntmps68
 go_wp2_with (go_at_call 101;refine (innermost_any _ rb l os _ _ _ ((H0.out.grow (below_new _ _)).rg) (by omega)).mono ?_;rintro r w1 ⟨rfl,hb1⟩;have c0:w1.cell? ⟨w.heap.size,0,none⟩=some (.int .i64 13):=below_cell hb1 (by go_simp);have c1:w1.cell? ⟨w.heap.size,1,none⟩=some (.int .i64 a):=below_cell hb1 (by go_simp);have c2:w1.cell? ⟨w.heap.size,2,none⟩=some (.int .i64 b):=below_cell hb1 (by go_simp);have H1:Hid (NS w0 wF w1 rb wb B l iv os (.slice oad os.length oc) ws):=H0.out.grow (below_seq (below_new _ _) hb1);obtain ⟨cs,fs,lt1⟩:=cells_of (l:=[_,_,_]) H1.out.blk;have k0:=cs 0 _ rfl;have k1:=cs 1 _ rfl;have k2:=cs 2 _ rfl;have fr1:=fs 1;obtain ⟨ds,es,lt2⟩:=cells_of (l:=intVs ws) H1.out.wth;have kw:=ds k (.int .i64 (ws.getD k 0)) (by simp [intVs,List.getD,hkw]);have fw:=es k;have lx:w.heap.size<w1.heap.size:=World.block_lt_of_cell? w1 _ c0;clear hb1 cs fs ds es;rw [hin];clear hin)
 go_wp2_with (go_at_call 102;refine (begins_any _ rb l os _ _ _ 13 a ((H1.out.setW k inn).rg) (by omega) (by omega)).mono ?_;rw [hq];rintro r w3 ⟨rfl,hb3⟩;have H3:Hid (NS w0 wF w3 rb wb B l iv os (.slice oad os.length oc) (ws.set k inn)):=(H1.out.setW k inn).grow hb3;replace c0:w3.cell? ⟨w.heap.size,0,none⟩=some (.int .i64 13):=below_cell hb3 (by go_simp);replace c1:w3.cell? ⟨w.heap.size,1,none⟩=some (.int .i64 a):=below_cell hb3 (by go_simp);replace c2:w3.cell? ⟨w.heap.size,2,none⟩=some (.int .i64 b):=below_cell hb3 (by go_simp);obtain ⟨cs,fs,lt3⟩:=cells_of (l:=[_,_,_]) H3.out.blk;replace k0:=cs 0 _ rfl;replace k1:=cs 1 _ rfl;replace k2:=cs 2 _ rfl;replace fr1:=fs 1;clear hb3 cs fs kw fw;dsimp only [beginOf])
 go_wp2_with (go_at_call 103;refine (ofRegion_any _ 13).mono ?_;rintro r w4 ⟨rfl,rfl⟩)
 go_ret
 exact ⟨rfl,_,H3.out⟩
set_option maxRecDepth 20000 in
set_option maxHeartbeats 4000000 in
theorem nested_13_open (w0 wF w:World) (rb wb B:Nat) (l:List In) (iv:Value) (os:List Nat) (ov:Value) (ws:List Int) (k:Nat) (a b:Int) (h:NS w0 wF w rb wb B l iv os ov ws) (hk:k<l.length) (hl:l.length≤2000) (ho:os.length≤2000) (hq:opens l os 13 a=none) :
  Calls Tryd.prog 68 #[.pointer (some ⟨rb,0,none⟩),.int .i64 k,.agg #[.int .i64 13,.int .i64 a,.int .i64 b]] w fun r w'=>r = .returned (.int .i64 0)∧∃ ov',NS w0 wF w' rb wb B l iv (os++[k]) ov' (ws.set k (beginOf os.getLast?)):=by
 obtain ⟨oad,oc,rfl⟩:=owns_value h.own
 have hkw:k<ws.length:=by rw [h.len];omega
 have lr:rb<w.heap.size:=(Array.getElem?_eq_some_iff.1 h.blk).1
 have lw:wb<w.heap.size:=(Array.getElem?_eq_some_iff.1 h.wth).1
 have lo:=h.ord.2.1
 have n1:¬ w.heap.size=wb:=by omega
 have n2:¬ rb=wb:=by omega
 have n3:¬ w.heap.size=rb:=by omega
 have H0:Hid (NS w0 wF w rb wb B l iv os (.slice oad os.length oc) ws):=h
 clear h
 generalize hin:beginOf os.getLast?=inn
 have HIN:Hid (beginOf os.getLast?=inn):=hin
 obtain ⟨i0,hi0,hz0,hz1,hz2⟩:=info_parts info3
 go_enter Tryd.func68,Tryd.ntmps68
 go_wp2_with (go_at_call 101;refine (innermost_any _ rb l os _ _ _ ((H0.out.grow (below_new _ _)).rg) (by omega)).mono ?_;rintro r w1 ⟨rfl,hb1⟩;have c0:w1.cell? ⟨w.heap.size,0,none⟩=some (.int .i64 13):=below_cell hb1 (by go_simp);have c1:w1.cell? ⟨w.heap.size,1,none⟩=some (.int .i64 a):=below_cell hb1 (by go_simp);have c2:w1.cell? ⟨w.heap.size,2,none⟩=some (.int .i64 b):=below_cell hb1 (by go_simp);have H1:Hid (NS w0 wF w1 rb wb B l iv os (.slice oad os.length oc) ws):=H0.out.grow (below_seq (below_new _ _) hb1);obtain ⟨cs,fs,lt1⟩:=cells_of (l:=[_,_,_]) H1.out.blk;have k0:=cs 0 _ rfl;have k1:=cs 1 _ rfl;have k2:=cs 2 _ rfl;have fr1:=fs 1;obtain ⟨ds,es,lt2⟩:=cells_of (l:=intVs ws) H1.out.wth;have kw:=ds k (.int .i64 (ws.getD k 0)) (by simp [intVs,List.getD,hkw]);have fw:=es k;have lx:w.heap.size<w1.heap.size:=World.block_lt_of_cell? w1 _ c0;clear hb1 cs fs ds es;rw [hin];clear hin)
 go_wp2_with (first
  | (go_at_call 102;refine (begins_any _ rb l os _ _ _ 13 a ((H1.out.setW k inn).rg) (by omega) (by omega)).mono ?_;rw [hq];rintro r w3 ⟨rfl,hb3⟩;have H3:Hid (NS w0 wF w3 rb wb B l iv os (.slice oad os.length oc) (ws.set k inn)):=(H1.out.setW k inn).grow hb3;replace c0:w3.cell? ⟨w.heap.size,0,none⟩=some (.int .i64 13):=below_cell hb3 (by go_simp);replace c1:w3.cell? ⟨w.heap.size,1,none⟩=some (.int .i64 a):=below_cell hb3 (by go_simp);replace c2:w3.cell? ⟨w.heap.size,2,none⟩=some (.int .i64 b):=below_cell hb3 (by go_simp);obtain ⟨cs,fs,lt3⟩:=cells_of (l:=[_,_,_]) H3.out.blk;replace k0:=cs 0 _ rfl;replace k1:=cs 1 _ rfl;replace k2:=cs 2 _ rfl;replace fr1:=fs 1;clear hb3 cs fs kw fw;dsimp only [beginOf])
  | (at_builtin;obtain ⟨v4,w4,hrun,ho4,hg4,-⟩:=append_two (P:=Tryd.prog) (w3.alloc (.cells #[.int .i64 ((k:Int)+1)] 3)) B w3.heap.size 23 23 3 i0 _ 1 8 Tryd.underlying23 hi0 hz0 hz1 hz2 rfl (by decide) _ os.length (posVs os) (H3.out.grow (below_new _ _)).own _ 1 [.int .i64 ((k:Int)+1)] (World.ownsRow_lit w3 #[.int .i64 ((k:Int)+1)] 1 (Nat.le_refl _) (by decide) rfl) (by intro u hu;simp at hu;subst hu;rfl) (by unfold maxLen;omega) (by omega) (Nat.le_trans H3.out.bas (by simp));obtain ⟨vad,vcap,rfl⟩:=owns_value ho4;have HP:Hid (NS w0 wF (w4.setCell ⟨rb,1,none⟩ (.slice vad (os.length+1) vcap)) rb wb B l iv (os++[k]) (.slice vad (os.length+1) vcap) (ws.set k inn)):=(H3.out.grow (below_new _ _)).push hg4 (by rw [List.length_append,posVs_append];exact ho4) (by intro z hz;rcases List.mem_append.1 hz with hz | hz;exact H3.out.low z hz;simp at hz;subst hz;exact hk);have hblk4:w4.heap[rb]?=some (.cells #[iv,.slice oad os.length oc,.slice (some ⟨wb,0,none⟩) (l.length+1) (l.length+1)] 129 (0,0)):=(hg4.block rb (by simp;omega) (fun e=>by have:=(H3.out.own.lt rb e.symm).1;have:=H3.out.ord;omega)).trans (H3.out.grow (below_new _ _)).blk;obtain ⟨cs,fs,lt4⟩:=cells_of (l:=[_,_,_]) hblk4;replace k1:=cs 1 _ rfl;replace fr1:=fs 1;refine append_known rfl (.tmp 36) (.tmp 39) 23 rfl rfl rfl hrun ?_;clear hrun ho4 hg4 hblk4 cs fs c0 c1 c2 k0 k2 lx))
 go_ret
 exact ⟨rfl,_,HP.out⟩
set_option maxRecDepth 20000 in
set_option maxHeartbeats 4000000 in
theorem nested_16_twice (w0 wF w:World) (rb wb B:Nat) (l:List In) (iv:Value) (os:List Nat) (ov:Value) (ws:List Int) (k:Nat) (a b:Int) (h:NS w0 wF w rb wb B l iv os ov ws) (hk:k<l.length) (hl:l.length≤2000) (ho:os.length≤2000) (q:Nat) (hq:opens l os 16 a=some q) :
  Calls Tryd.prog 68 #[.pointer (some ⟨rb,0,none⟩),.int .i64 k,.agg #[.int .i64 16,.int .i64 a,.int .i64 b]] w fun r w'=>r = .returned (.int .i64 10)∧∃ ov',NS w0 wF w' rb wb B l iv os ov' (ws.set k (beginOf os.getLast?)):=by
 obtain ⟨oad,oc,rfl⟩:=owns_value h.own
 have hkw:k<ws.length:=by rw [h.len];omega
 have lr:rb<w.heap.size:=(Array.getElem?_eq_some_iff.1 h.blk).1
 have lw:wb<w.heap.size:=(Array.getElem?_eq_some_iff.1 h.wth).1
 have lo:=h.ord.2.1
 have n1:¬ w.heap.size=wb:=by omega
 have n2:¬ rb=wb:=by omega
 have n3:¬ w.heap.size=rb:=by omega
 have H0:Hid (NS w0 wF w rb wb B l iv os (.slice oad os.length oc) ws):=h
 clear h
 generalize hin:beginOf os.getLast?=inn
 have HIN:Hid (beginOf os.getLast?=inn):=hin
 have hz:¬ ((q:Int)+1=0):=by omega
 have hzb:(((q:Int)+1) == 0)=false:=by simpa using hz
 have hzn:(((q:Int)+1) != 0)=true:=by simpa using hz
 go_enter Tryd.func68,Tryd.ntmps68
 go_wp2_with (go_at_call 101;refine (innermost_any _ rb l os _ _ _ ((H0.out.grow (below_new _ _)).rg) (by omega)).mono ?_;rintro r w1 ⟨rfl,hb1⟩;have c0:w1.cell? ⟨w.heap.size,0,none⟩=some (.int .i64 16):=below_cell hb1 (by go_simp);have c1:w1.cell? ⟨w.heap.size,1,none⟩=some (.int .i64 a):=below_cell hb1 (by go_simp);have c2:w1.cell? ⟨w.heap.size,2,none⟩=some (.int .i64 b):=below_cell hb1 (by go_simp);have H1:Hid (NS w0 wF w1 rb wb B l iv os (.slice oad os.length oc) ws):=H0.out.grow (below_seq (below_new _ _) hb1);obtain ⟨cs,fs,lt1⟩:=cells_of (l:=[_,_,_]) H1.out.blk;have k0:=cs 0 _ rfl;have k1:=cs 1 _ rfl;have k2:=cs 2 _ rfl;have fr1:=fs 1;obtain ⟨ds,es,lt2⟩:=cells_of (l:=intVs ws) H1.out.wth;have kw:=ds k (.int .i64 (ws.getD k 0)) (by simp [intVs,List.getD,hkw]);have fw:=es k;have lx:w.heap.size<w1.heap.size:=World.block_lt_of_cell? w1 _ c0;clear hb1 cs fs ds es;rw [hin];clear hin)
 go_wp2_with (go_at_call 102;refine (begins_any _ rb l os _ _ _ 16 a ((H1.out.setW k inn).rg) (by omega) (by omega)).mono ?_;rw [hq];rintro r w3 ⟨rfl,hb3⟩;have H3:Hid (NS w0 wF w3 rb wb B l iv os (.slice oad os.length oc) (ws.set k inn)):=(H1.out.setW k inn).grow hb3;replace c0:w3.cell? ⟨w.heap.size,0,none⟩=some (.int .i64 16):=below_cell hb3 (by go_simp);replace c1:w3.cell? ⟨w.heap.size,1,none⟩=some (.int .i64 a):=below_cell hb3 (by go_simp);replace c2:w3.cell? ⟨w.heap.size,2,none⟩=some (.int .i64 b):=below_cell hb3 (by go_simp);obtain ⟨cs,fs,lt3⟩:=cells_of (l:=[_,_,_]) H3.out.blk;replace k0:=cs 0 _ rfl;replace k1:=cs 1 _ rfl;replace k2:=cs 2 _ rfl;replace fr1:=fs 1;clear hb3 cs fs kw fw;dsimp only [beginOf])
 go_wp2_with (go_at_call 103;refine (ofRegion_any _ 16).mono ?_;rintro r w4 ⟨rfl,rfl⟩)
 go_ret
 exact ⟨rfl,_,H3.out⟩
set_option maxRecDepth 20000 in
set_option maxHeartbeats 4000000 in
theorem nested_16_open (w0 wF w:World) (rb wb B:Nat) (l:List In) (iv:Value) (os:List Nat) (ov:Value) (ws:List Int) (k:Nat) (a b:Int) (h:NS w0 wF w rb wb B l iv os ov ws) (hk:k<l.length) (hl:l.length≤2000) (ho:os.length≤2000) (hq:opens l os 16 a=none) :
  Calls Tryd.prog 68 #[.pointer (some ⟨rb,0,none⟩),.int .i64 k,.agg #[.int .i64 16,.int .i64 a,.int .i64 b]] w fun r w'=>r = .returned (.int .i64 0)∧∃ ov',NS w0 wF w' rb wb B l iv (os++[k]) ov' (ws.set k (beginOf os.getLast?)):=by
 obtain ⟨oad,oc,rfl⟩:=owns_value h.own
 have hkw:k<ws.length:=by rw [h.len];omega
 have lr:rb<w.heap.size:=(Array.getElem?_eq_some_iff.1 h.blk).1
 have lw:wb<w.heap.size:=(Array.getElem?_eq_some_iff.1 h.wth).1
 have lo:=h.ord.2.1
 have n1:¬ w.heap.size=wb:=by omega
 have n2:¬ rb=wb:=by omega
 have n3:¬ w.heap.size=rb:=by omega
 have H0:Hid (NS w0 wF w rb wb B l iv os (.slice oad os.length oc) ws):=h
 clear h
 generalize hin:beginOf os.getLast?=inn
 have HIN:Hid (beginOf os.getLast?=inn):=hin
 obtain ⟨i0,hi0,hz0,hz1,hz2⟩:=info_parts info3
 go_enter Tryd.func68,Tryd.ntmps68
 go_wp2_with (go_at_call 101;refine (innermost_any _ rb l os _ _ _ ((H0.out.grow (below_new _ _)).rg) (by omega)).mono ?_;rintro r w1 ⟨rfl,hb1⟩;have c0:w1.cell? ⟨w.heap.size,0,none⟩=some (.int .i64 16):=below_cell hb1 (by go_simp);have c1:w1.cell? ⟨w.heap.size,1,none⟩=some (.int .i64 a):=below_cell hb1 (by go_simp);have c2:w1.cell? ⟨w.heap.size,2,none⟩=some (.int .i64 b):=below_cell hb1 (by go_simp);have H1:Hid (NS w0 wF w1 rb wb B l iv os (.slice oad os.length oc) ws):=H0.out.grow (below_seq (below_new _ _) hb1);obtain ⟨cs,fs,lt1⟩:=cells_of (l:=[_,_,_]) H1.out.blk;have k0:=cs 0 _ rfl;have k1:=cs 1 _ rfl;have k2:=cs 2 _ rfl;have fr1:=fs 1;obtain ⟨ds,es,lt2⟩:=cells_of (l:=intVs ws) H1.out.wth;have kw:=ds k (.int .i64 (ws.getD k 0)) (by simp [intVs,List.getD,hkw]);have fw:=es k;have lx:w.heap.size<w1.heap.size:=World.block_lt_of_cell? w1 _ c0;clear hb1 cs fs ds es;rw [hin];clear hin)
 go_wp2_with (first
  | (go_at_call 102;refine (begins_any _ rb l os _ _ _ 16 a ((H1.out.setW k inn).rg) (by omega) (by omega)).mono ?_;rw [hq];rintro r w3 ⟨rfl,hb3⟩;have H3:Hid (NS w0 wF w3 rb wb B l iv os (.slice oad os.length oc) (ws.set k inn)):=(H1.out.setW k inn).grow hb3;replace c0:w3.cell? ⟨w.heap.size,0,none⟩=some (.int .i64 16):=below_cell hb3 (by go_simp);replace c1:w3.cell? ⟨w.heap.size,1,none⟩=some (.int .i64 a):=below_cell hb3 (by go_simp);replace c2:w3.cell? ⟨w.heap.size,2,none⟩=some (.int .i64 b):=below_cell hb3 (by go_simp);obtain ⟨cs,fs,lt3⟩:=cells_of (l:=[_,_,_]) H3.out.blk;replace k0:=cs 0 _ rfl;replace k1:=cs 1 _ rfl;replace k2:=cs 2 _ rfl;replace fr1:=fs 1;clear hb3 cs fs kw fw;dsimp only [beginOf])
  | (at_builtin;obtain ⟨v4,w4,hrun,ho4,hg4,-⟩:=append_two (P:=Tryd.prog) (w3.alloc (.cells #[.int .i64 ((k:Int)+1)] 3)) B w3.heap.size 23 23 3 i0 _ 1 8 Tryd.underlying23 hi0 hz0 hz1 hz2 rfl (by decide) _ os.length (posVs os) (H3.out.grow (below_new _ _)).own _ 1 [.int .i64 ((k:Int)+1)] (World.ownsRow_lit w3 #[.int .i64 ((k:Int)+1)] 1 (Nat.le_refl _) (by decide) rfl) (by intro u hu;simp at hu;subst hu;rfl) (by unfold maxLen;omega) (by omega) (Nat.le_trans H3.out.bas (by simp));obtain ⟨vad,vcap,rfl⟩:=owns_value ho4;have HP:Hid (NS w0 wF (w4.setCell ⟨rb,1,none⟩ (.slice vad (os.length+1) vcap)) rb wb B l iv (os++[k]) (.slice vad (os.length+1) vcap) (ws.set k inn)):=(H3.out.grow (below_new _ _)).push hg4 (by rw [List.length_append,posVs_append];exact ho4) (by intro z hz;rcases List.mem_append.1 hz with hz | hz;exact H3.out.low z hz;simp at hz;subst hz;exact hk);have hblk4:w4.heap[rb]?=some (.cells #[iv,.slice oad os.length oc,.slice (some ⟨wb,0,none⟩) (l.length+1) (l.length+1)] 129 (0,0)):=(hg4.block rb (by simp;omega) (fun e=>by have:=(H3.out.own.lt rb e.symm).1;have:=H3.out.ord;omega)).trans (H3.out.grow (below_new _ _)).blk;obtain ⟨cs,fs,lt4⟩:=cells_of (l:=[_,_,_]) hblk4;replace k1:=cs 1 _ rfl;replace fr1:=fs 1;refine append_known rfl (.tmp 36) (.tmp 39) 23 rfl rfl rfl hrun ?_;clear hrun ho4 hg4 hblk4 cs fs c0 c1 c2 k0 k2 lx))
 go_ret
 exact ⟨rfl,_,HP.out⟩
set_option maxRecDepth 20000 in
set_option maxHeartbeats 4000000 in
theorem nested_14_empty (w0 wF w:World) (rb wb B:Nat) (l:List In) (iv:Value) (os:List Nat) (ov:Value) (ws:List Int) (k:Nat) (a b:Int) (h:NS w0 wF w rb wb B l iv os ov ws) (hk:k<l.length) (_hl:l.length≤2000) (ho:os.length≤2000) (he:os=[]) :
  Calls Tryd.prog 68 #[.pointer (some ⟨rb,0,none⟩),.int .i64 k,.agg #[.int .i64 14,.int .i64 a,.int .i64 b]] w fun r w'=>r = .returned (.int .i64 9)∧∃ ov',NS w0 wF w' rb wb B l iv os ov' (ws.set k (beginOf os.getLast?)):=by
 obtain ⟨oad,oc,rfl⟩:=owns_value h.own
 have hkw:k<ws.length:=by rw [h.len];omega
 have lr:rb<w.heap.size:=(Array.getElem?_eq_some_iff.1 h.blk).1
 have lw:wb<w.heap.size:=(Array.getElem?_eq_some_iff.1 h.wth).1
 have lo:=h.ord.2.1
 have n1:¬ w.heap.size=wb:=by omega
 have n2:¬ rb=wb:=by omega
 have n3:¬ w.heap.size=rb:=by omega
 have H0:Hid (NS w0 wF w rb wb B l iv os (.slice oad os.length oc) ws):=h
 clear h
 generalize hin:beginOf os.getLast?=inn
 have HIN:Hid (beginOf os.getLast?=inn):=hin
 have e0:inn=0:=by rw [← hin,he];rfl
 subst e0
 go_enter Tryd.func68,Tryd.ntmps68
 go_wp2_with (go_at_call 101;refine (innermost_any _ rb l os _ _ _ ((H0.out.grow (below_new _ _)).rg) (by omega)).mono ?_;rintro r w1 ⟨rfl,hb1⟩;have c0:w1.cell? ⟨w.heap.size,0,none⟩=some (.int .i64 14):=below_cell hb1 (by go_simp);have c1:w1.cell? ⟨w.heap.size,1,none⟩=some (.int .i64 a):=below_cell hb1 (by go_simp);have c2:w1.cell? ⟨w.heap.size,2,none⟩=some (.int .i64 b):=below_cell hb1 (by go_simp);have H1:Hid (NS w0 wF w1 rb wb B l iv os (.slice oad os.length oc) ws):=H0.out.grow (below_seq (below_new _ _) hb1);obtain ⟨cs,fs,lt1⟩:=cells_of (l:=[_,_,_]) H1.out.blk;have k0:=cs 0 _ rfl;have k1:=cs 1 _ rfl;have k2:=cs 2 _ rfl;have fr1:=fs 1;obtain ⟨ds,es,lt2⟩:=cells_of (l:=intVs ws) H1.out.wth;have kw:=ds k (.int .i64 (ws.getD k 0)) (by simp [intVs,List.getD,hkw]);have fw:=es k;have lx:w.heap.size<w1.heap.size:=World.block_lt_of_cell? w1 _ c0;clear hb1 cs fs ds es;rw [hin];clear hin)
 go_ret
 exact ⟨rfl,_,H1.out.setW k 0⟩
set_option maxRecDepth 20000 in
set_option maxHeartbeats 4000000 in
theorem nested_14_bad (w0 wF w:World) (rb wb B:Nat) (l:List In) (iv:Value) (os:List Nat) (ov:Value) (ws:List Int) (k:Nat) (a b:Int) (h:NS w0 wF w rb wb B l iv os ov ws) (hk:k<l.length) (hl:l.length≤2000) (ho:os.length≤2000) (bq:Int) (hne:os≠[]) (hq:beginOf (opens l os 13 a)=bq) (hbq:bq≠beginOf os.getLast?) :
  Calls Tryd.prog 68 #[.pointer (some ⟨rb,0,none⟩),.int .i64 k,.agg #[.int .i64 14,.int .i64 a,.int .i64 b]] w fun r w'=>r = .returned (.int .i64 9)∧∃ ov',NS w0 wF w' rb wb B l iv os ov' (ws.set k (beginOf os.getLast?)):=by
 obtain ⟨oad,oc,rfl⟩:=owns_value h.own
 have hkw:k<ws.length:=by rw [h.len];omega
 have lr:rb<w.heap.size:=(Array.getElem?_eq_some_iff.1 h.blk).1
 have lw:wb<w.heap.size:=(Array.getElem?_eq_some_iff.1 h.wth).1
 have lo:=h.ord.2.1
 have n1:¬ w.heap.size=wb:=by omega
 have n2:¬ rb=wb:=by omega
 have n3:¬ w.heap.size=rb:=by omega
 have H0:Hid (NS w0 wF w rb wb B l iv os (.slice oad os.length oc) ws):=h
 clear h
 generalize hin:beginOf os.getLast?=inn
 have HIN:Hid (beginOf os.getLast?=inn):=hin
 rw [hin] at hbq
 have hlast:∃ z:Nat,os.getLast?=some z:=by
  cases hh:os.getLast? with
  | none=>exact absurd (List.getLast?_eq_none_iff.1 hh) hne
  | some z=>exact ⟨z,rfl⟩
 have hpos:¬ inn=0:=by
  obtain ⟨z,hz⟩:=hlast
  rw [hz] at hin
  have:(z:Int)+1=inn:=hin
  omega
 have hi0:(inn == 0)=false:=by simpa using hpos
 clear hlast
 have hb1:(bq != inn)=true:=by simpa using hbq
 have hb2:(bq == inn)=false:=by simpa using hbq
 go_enter Tryd.func68,Tryd.ntmps68
 go_wp2_with (go_at_call 101;refine (innermost_any _ rb l os _ _ _ ((H0.out.grow (below_new _ _)).rg) (by omega)).mono ?_;rintro r w1 ⟨rfl,hb1⟩;have c0:w1.cell? ⟨w.heap.size,0,none⟩=some (.int .i64 14):=below_cell hb1 (by go_simp);have c1:w1.cell? ⟨w.heap.size,1,none⟩=some (.int .i64 a):=below_cell hb1 (by go_simp);have c2:w1.cell? ⟨w.heap.size,2,none⟩=some (.int .i64 b):=below_cell hb1 (by go_simp);have H1:Hid (NS w0 wF w1 rb wb B l iv os (.slice oad os.length oc) ws):=H0.out.grow (below_seq (below_new _ _) hb1);obtain ⟨cs,fs,lt1⟩:=cells_of (l:=[_,_,_]) H1.out.blk;have k0:=cs 0 _ rfl;have k1:=cs 1 _ rfl;have k2:=cs 2 _ rfl;have fr1:=fs 1;obtain ⟨ds,es,lt2⟩:=cells_of (l:=intVs ws) H1.out.wth;have kw:=ds k (.int .i64 (ws.getD k 0)) (by simp [intVs,List.getD,hkw]);have fw:=es k;have lx:w.heap.size<w1.heap.size:=World.block_lt_of_cell? w1 _ c0;clear hb1 cs fs ds es;rw [hin];clear hin)
 go_wp2_with (go_at_call 102;refine (begins_any _ rb l os _ _ _ 13 a ((H1.out.setW k inn).rg) (by omega) (by omega)).mono ?_;rw [hq];rintro r w3 ⟨rfl,hb3⟩;have H3:Hid (NS w0 wF w3 rb wb B l iv os (.slice oad os.length oc) (ws.set k inn)):=(H1.out.setW k inn).grow hb3;replace c0:w3.cell? ⟨w.heap.size,0,none⟩=some (.int .i64 14):=below_cell hb3 (by go_simp);replace c1:w3.cell? ⟨w.heap.size,1,none⟩=some (.int .i64 a):=below_cell hb3 (by go_simp);replace c2:w3.cell? ⟨w.heap.size,2,none⟩=some (.int .i64 b):=below_cell hb3 (by go_simp);obtain ⟨cs,fs,lt3⟩:=cells_of (l:=[_,_,_]) H3.out.blk;replace k0:=cs 0 _ rfl;replace k1:=cs 1 _ rfl;replace k2:=cs 2 _ rfl;replace fr1:=fs 1;clear hb3 cs fs kw fw)
 go_ret
 exact ⟨rfl,_,H3.out⟩
set_option maxRecDepth 20000 in
set_option maxHeartbeats 4000000 in
theorem nested_14_back (w0 wF w:World) (rb wb B:Nat) (l:List In) (iv:Value) (os:List Nat) (ov:Value) (ws:List Int) (k:Nat) (a b:Int) (h:NS w0 wF w rb wb B l iv os ov ws) (hk:k<l.length) (hl:l.length≤2000) (ho:os.length≤2000) (hne:os≠[]) (hq:beginOf (opens l os 13 a)=beginOf os.getLast?) (hbb:b≠beginOf os.getLast?) :
  Calls Tryd.prog 68 #[.pointer (some ⟨rb,0,none⟩),.int .i64 k,.agg #[.int .i64 14,.int .i64 a,.int .i64 b]] w fun r w'=>r = .returned (.int .i64 9)∧∃ ov',NS w0 wF w' rb wb B l iv os ov' (ws.set k (beginOf os.getLast?)):=by
 obtain ⟨oad,oc,rfl⟩:=owns_value h.own
 have hkw:k<ws.length:=by rw [h.len];omega
 have lr:rb<w.heap.size:=(Array.getElem?_eq_some_iff.1 h.blk).1
 have lw:wb<w.heap.size:=(Array.getElem?_eq_some_iff.1 h.wth).1
 have lo:=h.ord.2.1
 have n1:¬ w.heap.size=wb:=by omega
 have n2:¬ rb=wb:=by omega
 have n3:¬ w.heap.size=rb:=by omega
 have H0:Hid (NS w0 wF w rb wb B l iv os (.slice oad os.length oc) ws):=h
 clear h
 generalize hin:beginOf os.getLast?=inn
 have HIN:Hid (beginOf os.getLast?=inn):=hin
 rw [hin] at hq hbb
 have hlast:∃ z:Nat,os.getLast?=some z:=by
  cases hh:os.getLast? with
  | none=>exact absurd (List.getLast?_eq_none_iff.1 hh) hne
  | some z=>exact ⟨z,rfl⟩
 have hpos:¬ inn=0:=by
  obtain ⟨z,hz⟩:=hlast
  rw [hz] at hin
  have:(z:Int)+1=inn:=hin
  omega
 have hi0:(inn == 0)=false:=by simpa using hpos
 clear hlast
 have hb1:(b != inn)=true:=by simpa using hbb
 have hb2:(b == inn)=false:=by simpa using hbb
 go_enter Tryd.func68,Tryd.ntmps68
 go_wp2_with (go_at_call 101;refine (innermost_any _ rb l os _ _ _ ((H0.out.grow (below_new _ _)).rg) (by omega)).mono ?_;rintro r w1 ⟨rfl,hb1⟩;have c0:w1.cell? ⟨w.heap.size,0,none⟩=some (.int .i64 14):=below_cell hb1 (by go_simp);have c1:w1.cell? ⟨w.heap.size,1,none⟩=some (.int .i64 a):=below_cell hb1 (by go_simp);have c2:w1.cell? ⟨w.heap.size,2,none⟩=some (.int .i64 b):=below_cell hb1 (by go_simp);have H1:Hid (NS w0 wF w1 rb wb B l iv os (.slice oad os.length oc) ws):=H0.out.grow (below_seq (below_new _ _) hb1);obtain ⟨cs,fs,lt1⟩:=cells_of (l:=[_,_,_]) H1.out.blk;have k0:=cs 0 _ rfl;have k1:=cs 1 _ rfl;have k2:=cs 2 _ rfl;have fr1:=fs 1;obtain ⟨ds,es,lt2⟩:=cells_of (l:=intVs ws) H1.out.wth;have kw:=ds k (.int .i64 (ws.getD k 0)) (by simp [intVs,List.getD,hkw]);have fw:=es k;have lx:w.heap.size<w1.heap.size:=World.block_lt_of_cell? w1 _ c0;clear hb1 cs fs ds es;rw [hin];clear hin)
 go_wp2_with (go_at_call 102;refine (begins_any _ rb l os _ _ _ 13 a ((H1.out.setW k inn).rg) (by omega) (by omega)).mono ?_;rw [hq];rintro r w3 ⟨rfl,hb3⟩;have H3:Hid (NS w0 wF w3 rb wb B l iv os (.slice oad os.length oc) (ws.set k inn)):=(H1.out.setW k inn).grow hb3;replace c0:w3.cell? ⟨w.heap.size,0,none⟩=some (.int .i64 14):=below_cell hb3 (by go_simp);replace c1:w3.cell? ⟨w.heap.size,1,none⟩=some (.int .i64 a):=below_cell hb3 (by go_simp);replace c2:w3.cell? ⟨w.heap.size,2,none⟩=some (.int .i64 b):=below_cell hb3 (by go_simp);obtain ⟨cs,fs,lt3⟩:=cells_of (l:=[_,_,_]) H3.out.blk;replace k0:=cs 0 _ rfl;replace k1:=cs 1 _ rfl;replace k2:=cs 2 _ rfl;replace fr1:=fs 1;clear hb3 cs fs kw fw)
 go_ret
 exact ⟨rfl,_,H3.out⟩
set_option maxRecDepth 20000 in
set_option maxHeartbeats 4000000 in
theorem nested_14_close (w0 wF w:World) (rb wb B:Nat) (l:List In) (iv:Value) (os:List Nat) (ov:Value) (ws:List Int) (k:Nat) (a b:Int) (h:NS w0 wF w rb wb B l iv os ov ws) (hk:k<l.length) (hl:l.length≤2000) (ho:os.length≤2000) (hne:os≠[]) (hq:beginOf (opens l os 13 a)=beginOf os.getLast?) (hbb:b=beginOf os.getLast?) :
  Calls Tryd.prog 68 #[.pointer (some ⟨rb,0,none⟩),.int .i64 k,.agg #[.int .i64 14,.int .i64 a,.int .i64 b]] w fun r w'=>r = .returned (.int .i64 0)∧∃ ov',NS w0 wF w' rb wb B l iv os.dropLast ov' (ws.set k (beginOf os.getLast?)):=by
 obtain ⟨oad,oc,rfl⟩:=owns_value h.own
 have hkw:k<ws.length:=by rw [h.len];omega
 have lr:rb<w.heap.size:=(Array.getElem?_eq_some_iff.1 h.blk).1
 have lw:wb<w.heap.size:=(Array.getElem?_eq_some_iff.1 h.wth).1
 have lo:=h.ord.2.1
 have n1:¬ w.heap.size=wb:=by omega
 have n2:¬ rb=wb:=by omega
 have n3:¬ w.heap.size=rb:=by omega
 have H0:Hid (NS w0 wF w rb wb B l iv os (.slice oad os.length oc) ws):=h
 clear h
 generalize hin:beginOf os.getLast?=inn
 have HIN:Hid (beginOf os.getLast?=inn):=hin
 rw [hin] at hq hbb
 have hlast:∃ z:Nat,os.getLast?=some z:=by
  cases hh:os.getLast? with
  | none=>exact absurd (List.getLast?_eq_none_iff.1 hh) hne
  | some z=>exact ⟨z,rfl⟩
 have hpos:¬ inn=0:=by
  obtain ⟨z,hz⟩:=hlast
  rw [hz] at hin
  have:(z:Int)+1=inn:=hin
  omega
 have hi0:(inn == 0)=false:=by simpa using hpos
 clear hlast
 have hcap:os.length≤oc:=by
  obtain ⟨-,⟨e,he⟩ | ⟨g,cap,cur,e,-,-,hc,-⟩⟩:=H0.out.own
  ·exact absurd (List.length_eq_zero_iff.1 he) hne
  ·cases e;exact hc
 obtain ⟨n,hn⟩:∃ n,os.length=n+1:=⟨os.length - 1,by have:=List.length_pos_iff.2 hne;omega⟩
 go_enter Tryd.func68,Tryd.ntmps68
 go_wp2_with (go_at_call 101;refine (innermost_any _ rb l os _ _ _ ((H0.out.grow (below_new _ _)).rg) (by omega)).mono ?_;rintro r w1 ⟨rfl,hb1⟩;have c0:w1.cell? ⟨w.heap.size,0,none⟩=some (.int .i64 14):=below_cell hb1 (by go_simp);have c1:w1.cell? ⟨w.heap.size,1,none⟩=some (.int .i64 a):=below_cell hb1 (by go_simp);have c2:w1.cell? ⟨w.heap.size,2,none⟩=some (.int .i64 b):=below_cell hb1 (by go_simp);have H1:Hid (NS w0 wF w1 rb wb B l iv os (.slice oad os.length oc) ws):=H0.out.grow (below_seq (below_new _ _) hb1);obtain ⟨cs,fs,lt1⟩:=cells_of (l:=[_,_,_]) H1.out.blk;have k0:=cs 0 _ rfl;have k1:=cs 1 _ rfl;have k2:=cs 2 _ rfl;have fr1:=fs 1;obtain ⟨ds,es,lt2⟩:=cells_of (l:=intVs ws) H1.out.wth;have kw:=ds k (.int .i64 (ws.getD k 0)) (by simp [intVs,List.getD,hkw]);have fw:=es k;have lx:w.heap.size<w1.heap.size:=World.block_lt_of_cell? w1 _ c0;clear hb1 cs fs ds es;rw [hin];clear hin)
 go_wp2_with (go_at_call 102;refine (begins_any _ rb l os _ _ _ 13 a ((H1.out.setW k inn).rg) (by omega) (by omega)).mono ?_;rw [hq];rintro r w3 ⟨rfl,hb3⟩;have H3:Hid (NS w0 wF w3 rb wb B l iv os (.slice oad os.length oc) (ws.set k inn)):=(H1.out.setW k inn).grow hb3;replace c0:w3.cell? ⟨w.heap.size,0,none⟩=some (.int .i64 14):=below_cell hb3 (by go_simp);replace c1:w3.cell? ⟨w.heap.size,1,none⟩=some (.int .i64 a):=below_cell hb3 (by go_simp);replace c2:w3.cell? ⟨w.heap.size,2,none⟩=some (.int .i64 b):=below_cell hb3 (by go_simp);obtain ⟨cs,fs,lt3⟩:=cells_of (l:=[_,_,_]) H3.out.blk;replace k0:=cs 0 _ rfl;replace k1:=cs 1 _ rfl;replace k2:=cs 2 _ rfl;replace fr1:=fs 1;clear hb3 cs fs kw fw)
 go_wp2_with fail
 rw [hn] at k1 hcap
 clear c0 c1 c2 k0 k2
 go_region
 go_wp2_with fail
 go_ret
 have hw:Below w3.heap.size w3 w3.drew:=(Below.refl _ w3).drew
 exact ⟨rfl,_,(H3.out.grow hw).push (w':=w3.drew) ⟨rfl,rfl,rfl,Nat.le_refl _,fun _ _ _=>rfl⟩ (ownsRow_shrink (by have:=(H3.out.grow hw).own;rw [hn] at this ⊢;exact this) hn) (fun z hz=>H3.out.low z (List.dropLast_subset _ hz))⟩
set_option maxRecDepth 20000 in
set_option maxHeartbeats 4000000 in
theorem nested_17_empty (w0 wF w:World) (rb wb B:Nat) (l:List In) (iv:Value) (os:List Nat) (ov:Value) (ws:List Int) (k:Nat) (a b:Int) (h:NS w0 wF w rb wb B l iv os ov ws) (hk:k<l.length) (_hl:l.length≤2000) (ho:os.length≤2000) (he:os=[]) :
  Calls Tryd.prog 68 #[.pointer (some ⟨rb,0,none⟩),.int .i64 k,.agg #[.int .i64 17,.int .i64 a,.int .i64 b]] w fun r w'=>r = .returned (.int .i64 10)∧∃ ov',NS w0 wF w' rb wb B l iv os ov' (ws.set k (beginOf os.getLast?)):=by
 obtain ⟨oad,oc,rfl⟩:=owns_value h.own
 have hkw:k<ws.length:=by rw [h.len];omega
 have lr:rb<w.heap.size:=(Array.getElem?_eq_some_iff.1 h.blk).1
 have lw:wb<w.heap.size:=(Array.getElem?_eq_some_iff.1 h.wth).1
 have lo:=h.ord.2.1
 have n1:¬ w.heap.size=wb:=by omega
 have n2:¬ rb=wb:=by omega
 have n3:¬ w.heap.size=rb:=by omega
 have H0:Hid (NS w0 wF w rb wb B l iv os (.slice oad os.length oc) ws):=h
 clear h
 generalize hin:beginOf os.getLast?=inn
 have HIN:Hid (beginOf os.getLast?=inn):=hin
 have e0:inn=0:=by rw [← hin,he];rfl
 subst e0
 go_enter Tryd.func68,Tryd.ntmps68
 go_wp2_with (go_at_call 101;refine (innermost_any _ rb l os _ _ _ ((H0.out.grow (below_new _ _)).rg) (by omega)).mono ?_;rintro r w1 ⟨rfl,hb1⟩;have c0:w1.cell? ⟨w.heap.size,0,none⟩=some (.int .i64 17):=below_cell hb1 (by go_simp);have c1:w1.cell? ⟨w.heap.size,1,none⟩=some (.int .i64 a):=below_cell hb1 (by go_simp);have c2:w1.cell? ⟨w.heap.size,2,none⟩=some (.int .i64 b):=below_cell hb1 (by go_simp);have H1:Hid (NS w0 wF w1 rb wb B l iv os (.slice oad os.length oc) ws):=H0.out.grow (below_seq (below_new _ _) hb1);obtain ⟨cs,fs,lt1⟩:=cells_of (l:=[_,_,_]) H1.out.blk;have k0:=cs 0 _ rfl;have k1:=cs 1 _ rfl;have k2:=cs 2 _ rfl;have fr1:=fs 1;obtain ⟨ds,es,lt2⟩:=cells_of (l:=intVs ws) H1.out.wth;have kw:=ds k (.int .i64 (ws.getD k 0)) (by simp [intVs,List.getD,hkw]);have fw:=es k;have lx:w.heap.size<w1.heap.size:=World.block_lt_of_cell? w1 _ c0;clear hb1 cs fs ds es;rw [hin];clear hin)
 go_ret
 exact ⟨rfl,_,H1.out.setW k 0⟩
set_option maxRecDepth 20000 in
set_option maxHeartbeats 4000000 in
theorem nested_17_bad (w0 wF w:World) (rb wb B:Nat) (l:List In) (iv:Value) (os:List Nat) (ov:Value) (ws:List Int) (k:Nat) (a b:Int) (h:NS w0 wF w rb wb B l iv os ov ws) (hk:k<l.length) (hl:l.length≤2000) (ho:os.length≤2000) (bq:Int) (hne:os≠[]) (hq:beginOf (opens l os 16 a)=bq) (hbq:bq≠beginOf os.getLast?) :
  Calls Tryd.prog 68 #[.pointer (some ⟨rb,0,none⟩),.int .i64 k,.agg #[.int .i64 17,.int .i64 a,.int .i64 b]] w fun r w'=>r = .returned (.int .i64 10)∧∃ ov',NS w0 wF w' rb wb B l iv os ov' (ws.set k (beginOf os.getLast?)):=by
 obtain ⟨oad,oc,rfl⟩:=owns_value h.own
 have hkw:k<ws.length:=by rw [h.len];omega
 have lr:rb<w.heap.size:=(Array.getElem?_eq_some_iff.1 h.blk).1
 have lw:wb<w.heap.size:=(Array.getElem?_eq_some_iff.1 h.wth).1
 have lo:=h.ord.2.1
 have n1:¬ w.heap.size=wb:=by omega
 have n2:¬ rb=wb:=by omega
 have n3:¬ w.heap.size=rb:=by omega
 have H0:Hid (NS w0 wF w rb wb B l iv os (.slice oad os.length oc) ws):=h
 clear h
 generalize hin:beginOf os.getLast?=inn
 have HIN:Hid (beginOf os.getLast?=inn):=hin
 rw [hin] at hbq
 have hlast:∃ z:Nat,os.getLast?=some z:=by
  cases hh:os.getLast? with
  | none=>exact absurd (List.getLast?_eq_none_iff.1 hh) hne
  | some z=>exact ⟨z,rfl⟩
 have hpos:¬ inn=0:=by
  obtain ⟨z,hz⟩:=hlast
  rw [hz] at hin
  have:(z:Int)+1=inn:=hin
  omega
 have hi0:(inn == 0)=false:=by simpa using hpos
 clear hlast
 have hb1:(bq != inn)=true:=by simpa using hbq
 have hb2:(bq == inn)=false:=by simpa using hbq
 go_enter Tryd.func68,Tryd.ntmps68
 go_wp2_with (go_at_call 101;refine (innermost_any _ rb l os _ _ _ ((H0.out.grow (below_new _ _)).rg) (by omega)).mono ?_;rintro r w1 ⟨rfl,hb1⟩;have c0:w1.cell? ⟨w.heap.size,0,none⟩=some (.int .i64 17):=below_cell hb1 (by go_simp);have c1:w1.cell? ⟨w.heap.size,1,none⟩=some (.int .i64 a):=below_cell hb1 (by go_simp);have c2:w1.cell? ⟨w.heap.size,2,none⟩=some (.int .i64 b):=below_cell hb1 (by go_simp);have H1:Hid (NS w0 wF w1 rb wb B l iv os (.slice oad os.length oc) ws):=H0.out.grow (below_seq (below_new _ _) hb1);obtain ⟨cs,fs,lt1⟩:=cells_of (l:=[_,_,_]) H1.out.blk;have k0:=cs 0 _ rfl;have k1:=cs 1 _ rfl;have k2:=cs 2 _ rfl;have fr1:=fs 1;obtain ⟨ds,es,lt2⟩:=cells_of (l:=intVs ws) H1.out.wth;have kw:=ds k (.int .i64 (ws.getD k 0)) (by simp [intVs,List.getD,hkw]);have fw:=es k;have lx:w.heap.size<w1.heap.size:=World.block_lt_of_cell? w1 _ c0;clear hb1 cs fs ds es;rw [hin];clear hin)
 go_wp2_with (go_at_call 102;refine (begins_any _ rb l os _ _ _ 16 a ((H1.out.setW k inn).rg) (by omega) (by omega)).mono ?_;rw [hq];rintro r w3 ⟨rfl,hb3⟩;have H3:Hid (NS w0 wF w3 rb wb B l iv os (.slice oad os.length oc) (ws.set k inn)):=(H1.out.setW k inn).grow hb3;replace c0:w3.cell? ⟨w.heap.size,0,none⟩=some (.int .i64 17):=below_cell hb3 (by go_simp);replace c1:w3.cell? ⟨w.heap.size,1,none⟩=some (.int .i64 a):=below_cell hb3 (by go_simp);replace c2:w3.cell? ⟨w.heap.size,2,none⟩=some (.int .i64 b):=below_cell hb3 (by go_simp);obtain ⟨cs,fs,lt3⟩:=cells_of (l:=[_,_,_]) H3.out.blk;replace k0:=cs 0 _ rfl;replace k1:=cs 1 _ rfl;replace k2:=cs 2 _ rfl;replace fr1:=fs 1;clear hb3 cs fs kw fw)
 go_ret
 exact ⟨rfl,_,H3.out⟩
set_option maxRecDepth 20000 in
set_option maxHeartbeats 4000000 in
theorem nested_17_close (w0 wF w:World) (rb wb B:Nat) (l:List In) (iv:Value) (os:List Nat) (ov:Value) (ws:List Int) (k:Nat) (a b:Int) (h:NS w0 wF w rb wb B l iv os ov ws) (hk:k<l.length) (hl:l.length≤2000) (ho:os.length≤2000) (hne:os≠[]) (hq:beginOf (opens l os 16 a)=beginOf os.getLast?) :
  Calls Tryd.prog 68 #[.pointer (some ⟨rb,0,none⟩),.int .i64 k,.agg #[.int .i64 17,.int .i64 a,.int .i64 b]] w fun r w'=>r = .returned (.int .i64 0)∧∃ ov',NS w0 wF w' rb wb B l iv os.dropLast ov' (ws.set k (beginOf os.getLast?)):=by
 obtain ⟨oad,oc,rfl⟩:=owns_value h.own
 have hkw:k<ws.length:=by rw [h.len];omega
 have lr:rb<w.heap.size:=(Array.getElem?_eq_some_iff.1 h.blk).1
 have lw:wb<w.heap.size:=(Array.getElem?_eq_some_iff.1 h.wth).1
 have lo:=h.ord.2.1
 have n1:¬ w.heap.size=wb:=by omega
 have n2:¬ rb=wb:=by omega
 have n3:¬ w.heap.size=rb:=by omega
 have H0:Hid (NS w0 wF w rb wb B l iv os (.slice oad os.length oc) ws):=h
 clear h
 generalize hin:beginOf os.getLast?=inn
 have HIN:Hid (beginOf os.getLast?=inn):=hin
 rw [hin] at hq
 have hlast:∃ z:Nat,os.getLast?=some z:=by
  cases hh:os.getLast? with
  | none=>exact absurd (List.getLast?_eq_none_iff.1 hh) hne
  | some z=>exact ⟨z,rfl⟩
 have hpos:¬ inn=0:=by
  obtain ⟨z,hz⟩:=hlast
  rw [hz] at hin
  have:(z:Int)+1=inn:=hin
  omega
 have hi0:(inn == 0)=false:=by simpa using hpos
 clear hlast
 have hcap:os.length≤oc:=by
  obtain ⟨-,⟨e,he⟩ | ⟨g,cap,cur,e,-,-,hc,-⟩⟩:=H0.out.own
  ·exact absurd (List.length_eq_zero_iff.1 he) hne
  ·cases e;exact hc
 obtain ⟨n,hn⟩:∃ n,os.length=n+1:=⟨os.length - 1,by have:=List.length_pos_iff.2 hne;omega⟩
 go_enter Tryd.func68,Tryd.ntmps68
 go_wp2_with (go_at_call 101;refine (innermost_any _ rb l os _ _ _ ((H0.out.grow (below_new _ _)).rg) (by omega)).mono ?_;rintro r w1 ⟨rfl,hb1⟩;have c0:w1.cell? ⟨w.heap.size,0,none⟩=some (.int .i64 17):=below_cell hb1 (by go_simp);have c1:w1.cell? ⟨w.heap.size,1,none⟩=some (.int .i64 a):=below_cell hb1 (by go_simp);have c2:w1.cell? ⟨w.heap.size,2,none⟩=some (.int .i64 b):=below_cell hb1 (by go_simp);have H1:Hid (NS w0 wF w1 rb wb B l iv os (.slice oad os.length oc) ws):=H0.out.grow (below_seq (below_new _ _) hb1);obtain ⟨cs,fs,lt1⟩:=cells_of (l:=[_,_,_]) H1.out.blk;have k0:=cs 0 _ rfl;have k1:=cs 1 _ rfl;have k2:=cs 2 _ rfl;have fr1:=fs 1;obtain ⟨ds,es,lt2⟩:=cells_of (l:=intVs ws) H1.out.wth;have kw:=ds k (.int .i64 (ws.getD k 0)) (by simp [intVs,List.getD,hkw]);have fw:=es k;have lx:w.heap.size<w1.heap.size:=World.block_lt_of_cell? w1 _ c0;clear hb1 cs fs ds es;rw [hin];clear hin)
 go_wp2_with (go_at_call 102;refine (begins_any _ rb l os _ _ _ 16 a ((H1.out.setW k inn).rg) (by omega) (by omega)).mono ?_;rw [hq];rintro r w3 ⟨rfl,hb3⟩;have H3:Hid (NS w0 wF w3 rb wb B l iv os (.slice oad os.length oc) (ws.set k inn)):=(H1.out.setW k inn).grow hb3;replace c0:w3.cell? ⟨w.heap.size,0,none⟩=some (.int .i64 17):=below_cell hb3 (by go_simp);replace c1:w3.cell? ⟨w.heap.size,1,none⟩=some (.int .i64 a):=below_cell hb3 (by go_simp);replace c2:w3.cell? ⟨w.heap.size,2,none⟩=some (.int .i64 b):=below_cell hb3 (by go_simp);obtain ⟨cs,fs,lt3⟩:=cells_of (l:=[_,_,_]) H3.out.blk;replace k0:=cs 0 _ rfl;replace k1:=cs 1 _ rfl;replace k2:=cs 2 _ rfl;replace fr1:=fs 1;clear hb3 cs fs kw fw)
 go_wp2_with fail
 rw [hn] at k1 hcap
 clear c0 c1 c2 k0 k2
 go_region
 go_wp2_with fail
 go_ret
 have hw:Below w3.heap.size w3 w3.drew:=(Below.refl _ w3).drew
 exact ⟨rfl,_,(H3.out.grow hw).push (w':=w3.drew) ⟨rfl,rfl,rfl,Nat.le_refl _,fun _ _ _=>rfl⟩ (ownsRow_shrink (by have:=(H3.out.grow hw).own;rw [hn] at this ⊢;exact this) hn) (fun z hz=>H3.out.low z (List.dropLast_subset _ hz))⟩
theorem nested_any (w0 wF w:World) (rb wb B:Nat) (l:List In) (iv:Value) (os:List Nat) (ov:Value) (ws:List Int) (k:Nat) (x:In) (h:NS w0 wF w rb wb B l iv os ov ws) (hk:k<l.length) (hl:l.length≤2000) (ho:os.length≤2000) :
  Calls Tryd.prog 68 #[.pointer (some ⟨rb,0,none⟩),.int .i64 k,x.val] w fun r w'=>r = .returned (.int .i64 (nestOf l k x os).1)∧∃ ov',NS w0 wF w' rb wb B l iv (nestOf l k x os).2 ov' (ws.set k (beginOf os.getLast?)):=by
 obtain ⟨op,a,b⟩:=x
 show Calls Tryd.prog 68 #[.pointer (some ⟨rb,0,none⟩),.int .i64 k,.agg #[.int .i64 op,.int .i64 a,.int .i64 b]] w _
 unfold nestOf
 dsimp only
 by_cases h13:op=13
 ·subst h13
  rw [if_pos (.inl rfl)]
  cases hq:opens l os 13 a with
  | none=>exact nested_13_open w0 wF w rb wb B l iv os ov ws k a b h hk hl ho hq
  | some q=>exact nested_13_twice w0 wF w rb wb B l iv os ov ws k a b h hk hl ho q hq
 by_cases h16:op=16
 ·subst h16
  rw [if_pos (.inr rfl)]
  cases hq:opens l os 16 a with
  | none=>exact nested_16_open w0 wF w rb wb B l iv os ov ws k a b h hk hl ho hq
  | some q=>exact nested_16_twice w0 wF w rb wb B l iv os ov ws k a b h hk hl ho q hq
 rw [if_neg (fun e=>e.elim h13 h16)]
 by_cases h14:op=14
 ·subst h14
  rw [if_pos rfl]
  by_cases he:os=[]
  ·rw [if_pos (.inl he)]
   exact nested_14_empty w0 wF w rb wb B l iv os ov ws k a b h hk hl ho he
  ·by_cases hq:beginOf (opens l os 13 a)=beginOf os.getLast?
   ·by_cases hbb:b=beginOf os.getLast?
    ·rw [if_neg (by simp [he,hq,hbb])]
     exact nested_14_close w0 wF w rb wb B l iv os ov ws k a b h hk hl ho he hq hbb
    ·rw [if_pos (.inr (.inr hbb))]
     exact nested_14_back w0 wF w rb wb B l iv os ov ws k a b h hk hl ho he hq hbb
   ·rw [if_pos (.inr (.inl hq))]
    exact nested_14_bad w0 wF w rb wb B l iv os ov ws k a b h hk hl ho _ he rfl hq
 rw [if_neg h14]
 by_cases h17:op=17
 ·subst h17
  rw [if_pos rfl]
  by_cases he:os=[]
  ·rw [if_pos (.inl he)]
   exact nested_17_empty w0 wF w rb wb B l iv os ov ws k a b h hk hl ho he
  ·by_cases hq:beginOf (opens l os 16 a)=beginOf os.getLast?
   ·rw [if_neg (by simp [he,hq])]
    exact nested_17_close w0 wF w rb wb B l iv os ov ws k a b h hk hl ho he hq
   ·rw [if_pos (.inr hq)]
    exact nested_17_bad w0 wF w rb wb B l iv os ov ws k a b h hk hl ho _ he rfl hq
 rw [if_neg h17]
 by_cases h15:op=15
 ·subst h15
  rw [if_pos rfl]
  cases hq:opens l os 13 a with
  | none=>exact nested_stop_no w0 wF w rb wb B l iv os ov ws k a b h hk hl ho hq
  | some q=>exact nested_stop_yes w0 wF w rb wb B l iv os ov ws k a b h hk hl ho q hq
 rw [if_neg h15]
 exact nested_other w0 wF w rb wb B l iv os ov ws k op a b h hk hl ho h13 h16 h14 h17 h15
set_option maxRecDepth 20000 in
set_option maxHeartbeats 4000000 in
theorem unclosed_any (w0 wF w:World) (rb wb B:Nat) (l:List In) (iv:Value) (os:List Nat) (ov:Value) (ws:List Int) (k:Nat) (op a b:Int) (c:Int) (h:NS w0 wF w rb wb B l iv os ov ws) (hk:k≤2000) (ho:os.length≤2000) (hc:(if k ∈ os then (if op=13 then 9 else 10) else 0)=c) :
  Calls Tryd.prog 69 #[.pointer (some ⟨rb,0,none⟩),.int .i64 k,.agg #[.int .i64 op,.int .i64 a,.int .i64 b]] w fun r w'=>r = .returned (.int .i64 c)∧Below w.heap.size w w':=by
 obtain ⟨oad,oc,rfl⟩:=owns_value h.own
 obtain ⟨cs,fs,lt⟩:=cells_of (l:=[_,_,_]) h.blk
 have k1:=cs 1 _ rfl
 have H0:Hid (NS w0 wF w rb wb B l iv os (.slice oad os.length oc) ws):=h
 clear h cs fs
 by_cases hm:k ∈ os
 ·rw [if_pos hm] at hc
  have hd:decide (k ∈ os)=true:=by simpa using hm
  go_enter Tryd.func69,Tryd.ntmps69
  go_wp2_with (go_at_call 104;refine (contains_any _ os _ k (pos_of_own (H0.out.grow (below_new _ _)).own) (by omega)).mono ?_;rw [hd];rintro r w1 ⟨rfl,hb1⟩;have H1:Hid (Below w.heap.size w w1):=below_seq (below_new _ _) hb1;have c0:w1.cell? ⟨w.heap.size,0,none⟩=some (.int .i64 op):=below_cell hb1 (by go_simp);clear hb1)
  go_wp2_with (go_at_call 103;refine (ofRegion_any w1 op).mono ?_;rw [hc];rintro r w2 ⟨rfl,rfl⟩)
  go_ret
  exact ⟨rfl,H1.out⟩
 ·rw [if_neg hm] at hc
  subst hc
  have hd:decide (k ∈ os)=false:=by simpa using hm
  go_enter Tryd.func69,Tryd.ntmps69
  go_wp2_with (go_at_call 104;refine (contains_any _ os _ k (pos_of_own (H0.out.grow (below_new _ _)).own) (by omega)).mono ?_;rw [hd];rintro r w1 ⟨rfl,hb1⟩;have H1:Hid (Below w.heap.size w w1):=below_seq (below_new _ _) hb1;clear hb1)
  go_ret
  exact ⟨rfl,H1.out⟩
def jumpErr (ws:List Int) (k:Nat) (x:In):Int :=
 if x.op≠11∧x.op≠12 then 0
 else if x.a≤k∨(ws.length:Int)≤x.a∨ws.getD x.a.toNat 0≠ws.getD k 0 then 7 else 0
theorem below_drewN' {w:World} {n:Nat}:Below w.heap.size w (w.drewN n):=⟨rfl,rfl,rfl,Nat.le_refl _,fun _ _=>rfl⟩
set_option maxRecDepth 20000 in
set_option maxHeartbeats 4000000 in
theorem jumps_none (w:World) (fb wb:Nat) (n:Nat) (k:Nat) (op a b:Int) (wc:Nat) (zk:Int) (_hf:w.cell? ⟨fb,0,none⟩=some (.slice (some ⟨wb,0,none⟩) n wc)) (_hw:w.cell? ⟨wb,k,none⟩=some (.int .i64 zk)) (_hk:k<n) (_hl:n≤4194304) (h1:op≠11) (h2:op≠12) :
  Calls Tryd.prog 105 #[.int .i64 k,.agg #[.int .i64 op,.int .i64 a,.int .i64 b],.pointer (some ⟨fb,0,none⟩)] w fun r w'=>r = .returned (.int .i64 0)∧Below w.heap.size w w':=by
 have f1:(op != 11)=true:=by simpa using h1
 have f2:(op != 12)=true:=by simpa using h2
 go_enter Tryd.func105,Tryd.ntmps105
 go_wp2_with fail
 go_ret
 exact ⟨rfl,below_new _ _⟩
set_option maxRecDepth 20000 in
set_option maxHeartbeats 4000000 in
theorem jumps_11_back (w:World) (fb wb:Nat) (n:Nat) (k:Nat) (a b:Int) (wc:Nat) (zk:Int) (hf:w.cell? ⟨fb,0,none⟩=some (.slice (some ⟨wb,0,none⟩) n wc)) (hw:w.cell? ⟨wb,k,none⟩=some (.int .i64 zk)) (_hk:k<n) (_hl:n≤4194304) (ha:a≤k) :
  Calls Tryd.prog 105 #[.int .i64 k,.agg #[.int .i64 11,.int .i64 a,.int .i64 b],.pointer (some ⟨fb,0,none⟩)] w fun r w'=>r = .returned (.int .i64 7)∧Below w.heap.size w w':=by
 have g1:decide (a≤(k:Int))=true:=by simpa using ha
 have lf:fb<w.heap.size:=World.block_lt_of_cell? w _ hf
 have lw:wb<w.heap.size:=World.block_lt_of_cell? w _ hw
 go_enter Tryd.func105,Tryd.ntmps105
 go_wp2_with fail
 go_quiet (fail)
 go_wp2_with fail
 go_ret
 exact ⟨rfl,below_seq (below_new _ _) below_drewN'⟩
set_option maxRecDepth 20000 in
set_option maxHeartbeats 4000000 in
theorem jumps_11_far (w:World) (fb wb:Nat) (n:Nat) (k:Nat) (a b:Int) (wc:Nat) (zk:Int) (hf:w.cell? ⟨fb,0,none⟩=some (.slice (some ⟨wb,0,none⟩) n wc)) (hw:w.cell? ⟨wb,k,none⟩=some (.int .i64 zk)) (_hk:k<n) (_hl:n≤4194304) (ha:¬ a≤k) (hb:(n:Int)≤a) :
  Calls Tryd.prog 105 #[.int .i64 k,.agg #[.int .i64 11,.int .i64 a,.int .i64 b],.pointer (some ⟨fb,0,none⟩)] w fun r w'=>r = .returned (.int .i64 7)∧Below w.heap.size w w':=by
 have g1:decide (a≤(k:Int))=false:=by simpa using ha
 have g2:decide ((n:Int)≤a)=true:=by simpa using hb
 have lf:fb<w.heap.size:=World.block_lt_of_cell? w _ hf
 have lw:wb<w.heap.size:=World.block_lt_of_cell? w _ hw
 go_enter Tryd.func105,Tryd.ntmps105
 go_wp2_with fail
 go_quiet (fail)
 go_wp2_with fail
 go_ret
 exact ⟨rfl,below_seq (below_new _ _) below_drewN'⟩
set_option maxRecDepth 20000 in
set_option maxHeartbeats 4000000 in
theorem jumps_11_other (w:World) (fb wb:Nat) (n:Nat) (k:Nat) (b:Int) (wc:Nat) (zk:Int) (hf:w.cell? ⟨fb,0,none⟩=some (.slice (some ⟨wb,0,none⟩) n wc)) (hw:w.cell? ⟨wb,k,none⟩=some (.int .i64 zk)) (hk:k<n) (_hl:n≤4194304) (m:Nat) (ha:k<m) (hb:m<n) (zm:Int) (hm:w.cell? ⟨wb,m,none⟩=some (.int .i64 zm)) (hz:zm≠zk) :
  Calls Tryd.prog 105 #[.int .i64 k,.agg #[.int .i64 11,.int .i64 m,.int .i64 b],.pointer (some ⟨fb,0,none⟩)] w fun r w'=>r = .returned (.int .i64 7)∧Below w.heap.size w w':=by
 have g1:decide ((m:Int)≤(k:Int))=false:=by simp;omega
 have g2:decide ((n:Int)≤(m:Int))=false:=by simp;omega
 have g4:decide (m≤k)=false:=by simp;omega
 have g5:decide (n≤m)=false:=by simp;omega
 have g3:(zm != zk)=true:=by simpa using hz
 have lf:fb<w.heap.size:=World.block_lt_of_cell? w _ hf
 have lw:wb<w.heap.size:=World.block_lt_of_cell? w _ hw
 go_enter Tryd.func105,Tryd.ntmps105
 go_wp2_with fail
 go_quiet (fail)
 go_wp2_with fail
 go_ret
 exact ⟨rfl,below_seq (below_new _ _) below_drewN'⟩
set_option maxRecDepth 20000 in
set_option maxHeartbeats 4000000 in
theorem jumps_11_good (w:World) (fb wb:Nat) (n:Nat) (k:Nat) (b:Int) (wc:Nat) (zk:Int) (hf:w.cell? ⟨fb,0,none⟩=some (.slice (some ⟨wb,0,none⟩) n wc)) (hw:w.cell? ⟨wb,k,none⟩=some (.int .i64 zk)) (hk:k<n) (_hl:n≤4194304) (m:Nat) (ha:k<m) (hb:m<n) (zm:Int) (hm:w.cell? ⟨wb,m,none⟩=some (.int .i64 zm)) (hz:zm=zk) :
  Calls Tryd.prog 105 #[.int .i64 k,.agg #[.int .i64 11,.int .i64 m,.int .i64 b],.pointer (some ⟨fb,0,none⟩)] w fun r w'=>r = .returned (.int .i64 0)∧Below w.heap.size w w':=by
 have g1:decide ((m:Int)≤(k:Int))=false:=by simp;omega
 have g2:decide ((n:Int)≤(m:Int))=false:=by simp;omega
 have g4:decide (m≤k)=false:=by simp;omega
 have g5:decide (n≤m)=false:=by simp;omega
 subst hz
 have lf:fb<w.heap.size:=World.block_lt_of_cell? w _ hf
 have lw:wb<w.heap.size:=World.block_lt_of_cell? w _ hw
 go_enter Tryd.func105,Tryd.ntmps105
 go_wp2_with fail
 go_quiet (fail)
 go_wp2_with fail
 go_ret
 exact ⟨rfl,below_seq (below_new _ _) below_drewN'⟩
set_option maxRecDepth 20000 in
set_option maxHeartbeats 4000000 in
theorem jumps_12_back (w:World) (fb wb:Nat) (n:Nat) (k:Nat) (a b:Int) (wc:Nat) (zk:Int) (hf:w.cell? ⟨fb,0,none⟩=some (.slice (some ⟨wb,0,none⟩) n wc)) (hw:w.cell? ⟨wb,k,none⟩=some (.int .i64 zk)) (_hk:k<n) (_hl:n≤4194304) (ha:a≤k) :
  Calls Tryd.prog 105 #[.int .i64 k,.agg #[.int .i64 12,.int .i64 a,.int .i64 b],.pointer (some ⟨fb,0,none⟩)] w fun r w'=>r = .returned (.int .i64 7)∧Below w.heap.size w w':=by
 have g1:decide (a≤(k:Int))=true:=by simpa using ha
 have lf:fb<w.heap.size:=World.block_lt_of_cell? w _ hf
 have lw:wb<w.heap.size:=World.block_lt_of_cell? w _ hw
 go_enter Tryd.func105,Tryd.ntmps105
 go_wp2_with fail
 go_quiet (fail)
 go_wp2_with fail
 go_ret
 exact ⟨rfl,below_seq (below_new _ _) below_drewN'⟩
set_option maxRecDepth 20000 in
set_option maxHeartbeats 4000000 in
theorem jumps_12_far (w:World) (fb wb:Nat) (n:Nat) (k:Nat) (a b:Int) (wc:Nat) (zk:Int) (hf:w.cell? ⟨fb,0,none⟩=some (.slice (some ⟨wb,0,none⟩) n wc)) (hw:w.cell? ⟨wb,k,none⟩=some (.int .i64 zk)) (_hk:k<n) (_hl:n≤4194304) (ha:¬ a≤k) (hb:(n:Int)≤a) :
  Calls Tryd.prog 105 #[.int .i64 k,.agg #[.int .i64 12,.int .i64 a,.int .i64 b],.pointer (some ⟨fb,0,none⟩)] w fun r w'=>r = .returned (.int .i64 7)∧Below w.heap.size w w':=by
 have g1:decide (a≤(k:Int))=false:=by simpa using ha
 have g2:decide ((n:Int)≤a)=true:=by simpa using hb
 have lf:fb<w.heap.size:=World.block_lt_of_cell? w _ hf
 have lw:wb<w.heap.size:=World.block_lt_of_cell? w _ hw
 go_enter Tryd.func105,Tryd.ntmps105
 go_wp2_with fail
 go_quiet (fail)
 go_wp2_with fail
 go_ret
 exact ⟨rfl,below_seq (below_new _ _) below_drewN'⟩
set_option maxRecDepth 20000 in
set_option maxHeartbeats 4000000 in
theorem jumps_12_other (w:World) (fb wb:Nat) (n:Nat) (k:Nat) (b:Int) (wc:Nat) (zk:Int) (hf:w.cell? ⟨fb,0,none⟩=some (.slice (some ⟨wb,0,none⟩) n wc)) (hw:w.cell? ⟨wb,k,none⟩=some (.int .i64 zk)) (hk:k<n) (_hl:n≤4194304) (m:Nat) (ha:k<m) (hb:m<n) (zm:Int) (hm:w.cell? ⟨wb,m,none⟩=some (.int .i64 zm)) (hz:zm≠zk) :
  Calls Tryd.prog 105 #[.int .i64 k,.agg #[.int .i64 12,.int .i64 m,.int .i64 b],.pointer (some ⟨fb,0,none⟩)] w fun r w'=>r = .returned (.int .i64 7)∧Below w.heap.size w w':=by
 have g1:decide ((m:Int)≤(k:Int))=false:=by simp;omega
 have g2:decide ((n:Int)≤(m:Int))=false:=by simp;omega
 have g4:decide (m≤k)=false:=by simp;omega
 have g5:decide (n≤m)=false:=by simp;omega
 have g3:(zm != zk)=true:=by simpa using hz
 have lf:fb<w.heap.size:=World.block_lt_of_cell? w _ hf
 have lw:wb<w.heap.size:=World.block_lt_of_cell? w _ hw
 go_enter Tryd.func105,Tryd.ntmps105
 go_wp2_with fail
 go_quiet (fail)
 go_wp2_with fail
 go_ret
 exact ⟨rfl,below_seq (below_new _ _) below_drewN'⟩
set_option maxRecDepth 20000 in
set_option maxHeartbeats 4000000 in
theorem jumps_12_good (w:World) (fb wb:Nat) (n:Nat) (k:Nat) (b:Int) (wc:Nat) (zk:Int) (hf:w.cell? ⟨fb,0,none⟩=some (.slice (some ⟨wb,0,none⟩) n wc)) (hw:w.cell? ⟨wb,k,none⟩=some (.int .i64 zk)) (hk:k<n) (_hl:n≤4194304) (m:Nat) (ha:k<m) (hb:m<n) (zm:Int) (hm:w.cell? ⟨wb,m,none⟩=some (.int .i64 zm)) (hz:zm=zk) :
  Calls Tryd.prog 105 #[.int .i64 k,.agg #[.int .i64 12,.int .i64 m,.int .i64 b],.pointer (some ⟨fb,0,none⟩)] w fun r w'=>r = .returned (.int .i64 0)∧Below w.heap.size w w':=by
 have g1:decide ((m:Int)≤(k:Int))=false:=by simp;omega
 have g2:decide ((n:Int)≤(m:Int))=false:=by simp;omega
 have g4:decide (m≤k)=false:=by simp;omega
 have g5:decide (n≤m)=false:=by simp;omega
 subst hz
 have lf:fb<w.heap.size:=World.block_lt_of_cell? w _ hf
 have lw:wb<w.heap.size:=World.block_lt_of_cell? w _ hw
 go_enter Tryd.func105,Tryd.ntmps105
 go_wp2_with fail
 go_quiet (fail)
 go_wp2_with fail
 go_ret
 exact ⟨rfl,below_seq (below_new _ _) below_drewN'⟩
theorem jumps1_any (w:World) (fb wb:Nat) (ws:List Int) (k:Nat) (x:In) (wc:Nat) (hf:w.cell? ⟨fb,0,none⟩=some (.slice (some ⟨wb,0,none⟩) ws.length wc)) (hw:∀ j,j<ws.length→w.cell? ⟨wb,j,none⟩=some (.int .i64 (ws.getD j 0))) (hk:k<ws.length) (hl:ws.length≤4194304) :
  Calls Tryd.prog 105 #[.int .i64 k,x.val,.pointer (some ⟨fb,0,none⟩)] w fun r w'=>r = .returned (.int .i64 (jumpErr ws k x))∧Below w.heap.size w w':=by
 obtain ⟨op,a,b⟩:=x
 show Calls Tryd.prog 105 #[.int .i64 k,.agg #[.int .i64 op,.int .i64 a,.int .i64 b],.pointer (some ⟨fb,0,none⟩)] w _
 unfold jumpErr
 dsimp only
 by_cases ho:op≠11∧op≠12
 ·rw [if_pos ho]
  exact jumps_none w fb wb ws.length k op a b wc _ hf (hw k hk) hk hl ho.1 ho.2
 ·rw [if_neg ho]
  have hop:op=11∨op=12:=by omega
  by_cases h1:a≤k
  ·rw [if_pos (.inl h1)]
   rcases hop with rfl | rfl
   ·exact jumps_11_back w fb wb ws.length k a b wc _ hf (hw k hk) hk hl h1
   ·exact jumps_12_back w fb wb ws.length k a b wc _ hf (hw k hk) hk hl h1
  by_cases h2:(ws.length:Int)≤a
  ·rw [if_pos (.inr (.inl h2))]
   rcases hop with rfl | rfl
   ·exact jumps_11_far w fb wb ws.length k a b wc _ hf (hw k hk) hk hl h1 h2
   ·exact jumps_12_far w fb wb ws.length k a b wc _ hf (hw k hk) hk hl h1 h2
  obtain ⟨m,rfl⟩:∃ m:Nat,a=m:=⟨a.toNat,by omega⟩
  have hm1:k<m:=by omega
  have hm2:m<ws.length:=by omega
  have e:(m:Int).toNat=m:=by simp
  rw [e]
  by_cases h3:ws.getD m 0≠ws.getD k 0
  ·rw [if_pos (.inr (.inr h3))]
   rcases hop with rfl | rfl
   ·exact jumps_11_other w fb wb ws.length k b wc _ hf (hw k hk) hk hl m hm1 hm2 _ (hw m hm2) h3
   ·exact jumps_12_other w fb wb ws.length k b wc _ hf (hw k hk) hk hl m hm1 hm2 _ (hw m hm2) h3
  ·rw [if_neg (by simp only [not_or];exact ⟨h1,h2,h3⟩)]
   rcases hop with rfl | rfl
   ·exact jumps_11_good w fb wb ws.length k b wc _ hf (hw k hk) hk hl m hm1 hm2 _ (hw m hm2) (Classical.not_not.1 h3)
   ·exact jumps_12_good w fb wb ws.length k b wc _ hf (hw k hk) hk hl m hm1 hm2 _ (hw m hm2) (Classical.not_not.1 h3)
end Go.Proofs.YtnkgbkkakokciacDoor
