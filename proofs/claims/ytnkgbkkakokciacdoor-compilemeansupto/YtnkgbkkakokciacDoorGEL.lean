import Derived.Test.YtnkgbkkakokciacDoorGBCheckP
import Derived.Test.YtnkgbkkakokciacDoorRows
import Derived.Test.YtnkgbkkakokciacDoorGBWorth
import Derived.Test.YtnkgbkkakokciacDoorGKinds
import Derived.LaidMore
import Derived.ChangeArms
import Derived.OpenShut
namespace Go.Proofs.YtnkgbkkakokciacDoor.B
open Go.ChangeShapes Go.WideShapes Go.ChangeAt Go.RowKit
def ex0:Ex:=.mk 0 0 []
def plainT:List St:=[.mk 4 3 ex0 0 ex0 ex0 [.mk 1 0 (.mk 5 0 [.mk 2 0 [],.mk 3 0 []]) 0 ex0 ex0 [] []] [],.mk 2 1 (.mk 7 0 [.mk 2 0 [],.mk 1 2 []]) 0 ex0 ex0 [] []]
theorem blk_cell {w:World} {g j:Nat} {cs:Array Value} {t:TypeId} {fr:Nat × Nat} {u:Value} (h:w.heap[g]?=some (.cells cs t fr)) (hj:cs[j]?=some u):w.cell? ⟨g,j,none⟩=some u:=by
 unfold World.cell?
 rw [h]
 simpa using hj
theorem leaf_in (p:Nat→Prop) (w:World) (k n:Int):(Ex.mk k n []).InP p w (.agg #[.int .i64 k,.int .i64 n,.slice none 0 0]):=by
 unfold Ex.InP
 exact ⟨none,0,rfl,.inl rfl⟩
theorem two_in {p:Nat→Prop} {w:World} {g:Nat} {k n k1 n1 k2 n2:Int} {t:TypeId} {fr:Nat × Nat} (hp:p g) (h:w.heap[g]?=some (.cells #[.int .i64 k1,.int .i64 n1,.slice none 0 0,.int .i64 k2,.int .i64 n2,.slice none 0 0] t fr)) :
  (Ex.mk k n [.mk k1 n1 [],.mk k2 n2 []]).InP p w (.agg #[.int .i64 k,.int .i64 n,.slice (some ⟨g,0,none⟩) 2 2]):=by
 unfold Ex.InP
 refine ⟨_,2,rfl,.inr ⟨g,0,rfl,hp,?_⟩⟩
 unfold Ex.RowP
 refine ⟨⟨_,_,_,blk_cell h rfl,blk_cell h rfl,blk_cell h rfl,leaf_in _ _ _ _⟩,?_⟩
 unfold Ex.RowP
 refine ⟨⟨_,_,_,blk_cell h rfl,blk_cell h rfl,blk_cell h rfl,leaf_in _ _ _ _⟩,?_⟩
 unfold Ex.RowP
 trivial
theorem plain_in {p:Nat→Prop} {W:World} {g1 g2 g3 g4:Nat} (hp:p g1∧p g2∧p g3∧p g4)
  (h1:W.heap[g1]?=some (.cells #[.int .i64 2,.int .i64 0,.slice none 0 0,.int .i64 3,.int .i64 0,.slice none 0 0] 119 (0,0)))
  (h2:W.heap[g2]?=some (.cells #[.int .i64 1,.int .i64 0,.int .i64 5,.int .i64 0,.slice (some ⟨g1,0,none⟩) 2 2,.int .i64 0,.int .i64 0,.int .i64 0,.slice none 0 0,.int .i64 0,.int .i64 0,.slice none 0 0,.slice none 0 0,.slice none 0 0] 123 (0,0)))
  (h3:W.heap[g3]?=some (.cells #[.int .i64 2,.int .i64 0,.slice none 0 0,.int .i64 1,.int .i64 2,.slice none 0 0] 119 (0,0)))
  (h4:W.heap[g4]?=some (.cells #[.int .i64 4,.int .i64 3,.int .i64 0,.int .i64 0,.slice none 0 0,.int .i64 0,.int .i64 0,.int .i64 0,.slice none 0 0,.int .i64 0,.int .i64 0,.slice none 0 0,.slice (some ⟨g2,0,none⟩) 1 1,.slice none 0 0,
   .int .i64 2,.int .i64 1,.int .i64 7,.int .i64 0,.slice (some ⟨g3,0,none⟩) 2 2,.int .i64 0,.int .i64 0,.int .i64 0,.slice none 0 0,.int .i64 0,.int .i64 0,.slice none 0 0,.slice none 0 0,.slice none 0 0] 123 (0,0))) :
  St.SlQ p W plainT (.slice (some ⟨g4,0,none⟩) 2 2) [g4,g2]:=by
 refine ⟨_,2,rfl,.inr ⟨by simp [plainT],g4,[g2],rfl,⟨hp.2.2.2,_,h4⟩,rfl,?_⟩⟩
 unfold plainT St.RowQ
 refine ⟨[g2],[],rfl,⟨fun i=>([.int .i64 4,.int .i64 3,.int .i64 0,.int .i64 0,.slice none 0 0,.int .i64 0,.int .i64 0,.int .i64 0,.slice none 0 0,.int .i64 0,.int .i64 0,.slice none 0 0,.slice (some ⟨g2,0,none⟩) 1 1,.slice none 0 0]:List Value).getD i undef,fun j hj=>?_,?_⟩,?_⟩
 ·match j,hj with
  | 0,_ | 1,_ | 2,_ | 3,_ | 4,_ | 5,_ | 6,_ | 7,_ | 8,_ | 9,_ | 10,_ | 11,_ | 12,_ | 13,_=>exact blk_cell h4 rfl
 ·unfold St.InQ
  refine ⟨_,_,_,_,_,_,_,_,_,_,_,rfl,leaf_in _ _ _ _,leaf_in _ _ _ _,leaf_in _ _ _ _,[g2],[],rfl,⟨_,1,rfl,.inr ⟨by simp,g2,[],rfl,⟨hp.2.1,_,h2⟩,rfl,?_⟩⟩,⟨none,0,rfl,.inl ⟨rfl,rfl⟩⟩⟩
  unfold St.RowQ
  refine ⟨[],[],rfl,⟨fun i=>([.int .i64 1,.int .i64 0,.int .i64 5,.int .i64 0,.slice (some ⟨g1,0,none⟩) 2 2,.int .i64 0,.int .i64 0,.int .i64 0,.slice none 0 0,.int .i64 0,.int .i64 0,.slice none 0 0,.slice none 0 0,.slice none 0 0]:List Value).getD i undef,fun j hj=>?_,?_⟩,?_⟩
  ·match j,hj with
   | 0,_ | 1,_ | 2,_ | 3,_ | 4,_ | 5,_ | 6,_ | 7,_ | 8,_ | 9,_ | 10,_ | 11,_ | 12,_ | 13,_=>exact blk_cell h2 rfl
  ·unfold St.InQ
   exact ⟨_,_,_,_,_,_,_,_,_,_,_,rfl,two_in hp.1 h1,leaf_in _ _ _ _,leaf_in _ _ _ _,[],[],rfl,⟨none,0,rfl,.inl ⟨rfl,rfl⟩⟩,⟨none,0,rfl,.inl ⟨rfl,rfl⟩⟩⟩
  ·unfold St.RowQ
   rfl
 ·unfold St.RowQ
  refine ⟨[],[],rfl,⟨fun i=>([.int .i64 2,.int .i64 1,.int .i64 7,.int .i64 0,.slice (some ⟨g3,0,none⟩) 2 2,.int .i64 0,.int .i64 0,.int .i64 0,.slice none 0 0,.int .i64 0,.int .i64 0,.slice none 0 0,.slice none 0 0,.slice none 0 0]:List Value).getD i undef,fun j hj=>?_,?_⟩,?_⟩
  ·match j,hj with
   | 0,_ | 1,_ | 2,_ | 3,_ | 4,_ | 5,_ | 6,_ | 7,_ | 8,_ | 9,_ | 10,_ | 11,_ | 12,_ | 13,_=>exact blk_cell h4 rfl
  ·unfold St.InQ
   exact ⟨_,_,_,_,_,_,_,_,_,_,_,rfl,two_in hp.2.2.1 h3,leaf_in _ _ _ _,leaf_in _ _ _ _,[],[],rfl,⟨none,0,rfl,.inl ⟨rfl,rfl⟩⟩,⟨none,0,rfl,.inl ⟨rfl,rfl⟩⟩⟩
  ·unfold St.RowQ
   rfl
theorem plain_heap {w:World} {o0 o1 o2 o3 o4:Obj}:(((((w.alloc o0).alloc o1).alloc o2).alloc o3).alloc o4).heap[w.heap.size+1]?=some o1∧(((((w.alloc o0).alloc o1).alloc o2).alloc o3).alloc o4).heap[w.heap.size+1+1]?=some o2 ∧
  (((((w.alloc o0).alloc o1).alloc o2).alloc o3).alloc o4).heap[w.heap.size+1+1+1]?=some o3∧(((((w.alloc o0).alloc o1).alloc o2).alloc o3).alloc o4).heap[w.heap.size+1+1+1+1]?=some o4:=by
 have n1:=heap_alloc_new (w.alloc o0) o1
 have n2:=heap_alloc_new ((w.alloc o0).alloc o1) o2
 have n3:=heap_alloc_new (((w.alloc o0).alloc o1).alloc o2) o3
 have n4:=heap_alloc_new ((((w.alloc o0).alloc o1).alloc o2).alloc o3) o4
 have z1:(w.alloc o0).heap.size=w.heap.size+1:=by simp
 have z2:((w.alloc o0).alloc o1).heap.size=w.heap.size+1+1:=by simp
 have z3:(((w.alloc o0).alloc o1).alloc o2).heap.size=w.heap.size+1+1+1:=by simp
 have z4:((((w.alloc o0).alloc o1).alloc o2).alloc o3).heap.size=w.heap.size+1+1+1+1:=by simp
 have z5:(((w.alloc o0).alloc o1).alloc o2).heap.size=w.heap.size+1+1+1:=by simp
 rw [z1] at n1
 rw [z2] at n2
 rw [z3] at n3
 rw [z4] at n4
 refine ⟨?_,?_,?_,n4⟩
 ·rw [Below.heap_alloc _ _ _ (by omega),Below.heap_alloc _ _ _ (by omega),Below.heap_alloc _ _ _ (by omega)];exact n1
 ·rw [Below.heap_alloc _ _ _ (by omega),Below.heap_alloc _ _ _ (by omega)];exact n2
 ·rw [Below.heap_alloc _ _ _ (by omega)];exact n3
set_option maxRecDepth 20000 in
set_option maxHeartbeats 2000000 in
theorem plain_any (w:World):Calls Tryd.prog 31 #[] w fun r w'=>∃ v bl,r = .returned v∧St.SlQ (fun b=>w.heap.size≤b) w' plainT v bl∧bl.Nodup∧Below w.heap.size w w':=by
 go_enter Tryd.func31,Tryd.ntmps31
 go_wp2_with fail
 go_ret
 obtain ⟨h1,h2,h3,h4⟩:=@plain_heap w _ _ _ _ _
 exact ⟨_,_,rfl,plain_in ⟨by omega,by omega,by omega,by omega⟩ h1 h2 h3 h4,(by clear h1 h2 h3 h4;simp;omega),(((((Below.refl _ w).alloc (Nat.le_refl _) _).alloc (by simp) _).alloc (by simp;omega) _).alloc (by simp;omega) _).alloc (by simp;omega) _⟩
theorem gShapes:Tryd.prog.globalNamed "punctual/tongue.shapes"=some 2:=by kernel_rfl
theorem gForms:Tryd.prog.globalNamed "punctual/tongue.forms"=some 5:=by kernel_rfl
theorem gEnds:Tryd.prog.globalNamed "punctual/compile.ends"=some 3:=by kernel_rfl
theorem gComps:Tryd.prog.globalNamed "punctual/compile.comparisons"=some 4:=by kernel_rfl
theorem tShapes:(Tryd.prog.globals[2]?).map (·.type)=some 204:=by kernel_rfl
theorem tForms:(Tryd.prog.globals[5]?).map (·.type)=some 226:=by kernel_rfl
theorem tEnds:(Tryd.prog.globals[3]?).map (·.type)=some 88:=by kernel_rfl
theorem tComps:(Tryd.prog.globals[4]?).map (·.type)=some 223:=by kernel_rfl
theorem laidCellsF:Tryd.prog.cellsOf 225=2:=by kernel_rfl
theorem laidCellsC:Tryd.prog.cellsOf 222=2:=by kernel_rfl
theorem laidCells66:Tryd.prog.cellsOf 203=6:=by kernel_rfl
theorem laidCells3:Tryd.prog.cellsOf 3=1:=by kernel_rfl
theorem laidCells4:Tryd.prog.cellsOf 4=1:=by kernel_rfl
section
variable {H:Type} {enc:TypeId × Value→H} {w:World} {base:Nat} {sp:Nat→Bool} {held:Bool}
theorem one_at {cs:List Value} {o k j:Nat} {c:Value} (hj:j<k) (h:(((cs.drop o).take k).drop j).take 1=[c]):cs[o+j]?=some c:=by
 have h0:((((cs.drop o).take k).drop j).take 1)[0]?=some c:=by rw [h];rfl
 rw [List.getElem?_take_of_lt (by omega),List.getElem?_drop,List.getElem?_take_of_lt (by omega),List.getElem?_drop] at h0
 simpa using h0
theorem int_at {cs:List Value} {o k j n:Nat} {z:Int} {y:DataW H × List MemPlace} (hj:j<k) (h:DataW.trod enc Tryd.prog w base sp held n 3 ((((cs.drop o).take k).drop j).take 1)=some y) (hy:y.1 = .lit (.int .i64 z)):cs[o+j]?=some (.int .i64 z):=by
 obtain ⟨m,h1,rfl,-⟩:=DataW.trod_int Tryd.underlying3 h
 simp at hy
 subst hy
 exact one_at hj h1
theorem bool_at {cs:List Value} {o k j n:Nat} {z:Bool} {y:DataW H × List MemPlace} (hj:j<k) (h:DataW.trod enc Tryd.prog w base sp held n 4 ((((cs.drop o).take k).drop j).take 1)=some y) (hy:y.1 = .lit (.bool z)):cs[o+j]?=some (.bool z):=by
 obtain ⟨m,h1,rfl⟩:=DataW.trod_bool Tryd.underlying4 h
 simp at hy
 subst hy
 exact one_at hj h1
theorem row66 {cs:List Value} {o n:Nat} {k0 k1:Int} {b2 b3 b4 b5:Bool} {y:DataW H × List MemPlace} (h:DataW.trod enc Tryd.prog w base sp held n 203 ((cs.drop o).take 6)=some y)
  (hy:y.1 = .agg [.lit (.int .i64 k0),.lit (.int .i64 k1),.lit (.bool b2),.lit (.bool b3),.lit (.bool b4),.lit (.bool b5)]) :
  cs[o]?=some (.int .i64 k0)∧cs[o+1]?=some (.int .i64 k1)∧cs[o+2]?=some (.bool b2)∧cs[o+3]?=some (.bool b3)∧cs[o+4]?=some (.bool b4)∧cs[o+5]?=some (.bool b5):=by
 obtain ⟨xs,n1,rfl,rfl,-,hlen,hf⟩:=DataW.trod_struct Tryd.underlying203 h
 match xs,hlen with
 | [y0,y1,y2,y3,y4,y5],_ =>
  simp only [List.map_cons,List.map_nil,DataW.agg.injEq,List.cons.injEq,and_true] at hy
  obtain ⟨e0,e1,e2,e3,e4,e5⟩:=hy
  have f0:DataW.trod enc Tryd.prog w base sp held n1 3 ((((cs.drop o).take 6).drop 0).take (Tryd.prog.cellsOf 3))=some y0:=hf 0 _ rfl
  have f1:DataW.trod enc Tryd.prog w base sp held n1 3 ((((cs.drop o).take 6).drop 1).take (Tryd.prog.cellsOf 3))=some y1:=hf 1 _ rfl
  have f2:DataW.trod enc Tryd.prog w base sp held n1 4 ((((cs.drop o).take 6).drop 2).take (Tryd.prog.cellsOf 4))=some y2:=hf 2 _ rfl
  have f3:DataW.trod enc Tryd.prog w base sp held n1 4 ((((cs.drop o).take 6).drop 3).take (Tryd.prog.cellsOf 4))=some y3:=hf 3 _ rfl
  have f4:DataW.trod enc Tryd.prog w base sp held n1 4 ((((cs.drop o).take 6).drop 4).take (Tryd.prog.cellsOf 4))=some y4:=hf 4 _ rfl
  have f5:DataW.trod enc Tryd.prog w base sp held n1 4 ((((cs.drop o).take 6).drop 5).take (Tryd.prog.cellsOf 4))=some y5:=hf 5 _ rfl
  rw [laidCells3] at f0 f1
  rw [laidCells4] at f2 f3 f4 f5
  exact ⟨int_at (by omega) f0 e0,int_at (by omega) f1 e1,bool_at (by omega) f2 e2,bool_at (by omega) f3 e3,bool_at (by omega) f4 e4,bool_at (by omega) f5 e5⟩
theorem rowF {cs:List Value} {o n:Nat} {k0 k1:Int} {y:DataW H × List MemPlace} (h:DataW.trod enc Tryd.prog w base sp held n 225 ((cs.drop o).take 2)=some y) (hy:y.1 = .agg [.lit (.int .i64 k0),.lit (.int .i64 k1)]) :
  cs[o]?=some (.int .i64 k0)∧cs[o+1]?=some (.int .i64 k1):=by
 obtain ⟨xs,n1,rfl,rfl,-,hlen,hf⟩:=DataW.trod_struct Tryd.underlying225 h
 match xs,hlen with
 | [y0,y1],_ =>
  simp only [List.map_cons,List.map_nil,DataW.agg.injEq,List.cons.injEq,and_true] at hy
  obtain ⟨e0,e1⟩:=hy
  have f0:DataW.trod enc Tryd.prog w base sp held n1 3 ((((cs.drop o).take 2).drop 0).take (Tryd.prog.cellsOf 3))=some y0:=hf 0 _ rfl
  have f1:DataW.trod enc Tryd.prog w base sp held n1 3 ((((cs.drop o).take 2).drop 1).take (Tryd.prog.cellsOf 3))=some y1:=hf 1 _ rfl
  rw [laidCells3] at f0 f1
  exact ⟨int_at (by omega) f0 e0,int_at (by omega) f1 e1⟩
theorem rowC {cs:List Value} {o n:Nat} {k0:Int} {b1:Bool} {y:DataW H × List MemPlace} (h:DataW.trod enc Tryd.prog w base sp held n 222 ((cs.drop o).take 2)=some y) (hy:y.1 = .agg [.lit (.int .i64 k0),.lit (.bool b1)]) :
  cs[o]?=some (.int .i64 k0)∧cs[o+1]?=some (.bool b1):=by
 obtain ⟨xs,n1,rfl,rfl,-,hlen,hf⟩:=DataW.trod_struct Tryd.underlying222 h
 match xs,hlen with
 | [y0,y1],_ =>
  simp only [List.map_cons,List.map_nil,DataW.agg.injEq,List.cons.injEq,and_true] at hy
  obtain ⟨e0,e1⟩:=hy
  have f0:DataW.trod enc Tryd.prog w base sp held n1 3 ((((cs.drop o).take 2).drop 0).take (Tryd.prog.cellsOf 3))=some y0:=hf 0 _ rfl
  have f1:DataW.trod enc Tryd.prog w base sp held n1 4 ((((cs.drop o).take 2).drop 1).take (Tryd.prog.cellsOf 4))=some y1:=hf 1 _ rfl
  rw [laidCells3] at f0
  rw [laidCells4] at f1
  exact ⟨int_at (by omega) f0 e0,bool_at (by omega) f1 e1⟩
theorem numC {cs:List Value} {o n:Nat} {k0:Int} {y:DataW H × List MemPlace} (h:DataW.trod enc Tryd.prog w base sp held n 3 ((cs.drop o).take 1)=some y) (hy:y.1 = .lit (.int .i64 k0)):cs[o]?=some (.int .i64 k0):=by
 obtain ⟨m,h1,rfl,-⟩:=DataW.trod_int Tryd.underlying3 h
 simp at hy
 subst hy
 have h0:((cs.drop o).take 1)[0]?=some (.int .i64 m):=by rw [h1];rfl
 rw [List.getElem?_take_of_lt (by omega),List.getElem?_drop] at h0
 simpa using h0
end
theorem of_laidM {W:World} (h:laidMetH Tryd.prog Rows.compileMeansUptoRow.laid W):(((ShapesIn W∧FormsIn W)∧EndsIn W∧CompsIn W)∧KindsIn W):=by
 rw [MakeChecks.laidMetH_plain _ _ _ (by kernel_rfl)] at h
 obtain ⟨ps,⟨gk,tk,csk,fk,pk,qk,hgk,htk,hvk,hdk,⟨g0,t0,cs0,f0,p0,q0,hg0,ht0,hv0,hd0,⟨g1,t1,cs1,f1,p1,q1,hg1,ht1,hv1,hd1,⟨g2,t2,cs2,f2,p2,q2,hg2,ht2,hv2,hd2,⟨g3,t3,cs3,f3,p3,q3,hg3,ht3,hv3,hd3,_,_⟩,_⟩,_⟩,_⟩,_⟩,_,_⟩:=h
 obtain rfl:=Option.some.inj (gKinds.symm.trans hgk)
 obtain rfl:=Option.some.inj (tKinds.symm.trans htk)
 have ck:∀ j,W.cell? ⟨1,j,none⟩=csk[j]?:=World.var?_cell hgk hvk
 obtain rfl:=Option.some.inj (gShapes.symm.trans hg0)
 obtain rfl:=Option.some.inj (gForms.symm.trans hg1)
 obtain rfl:=Option.some.inj (gEnds.symm.trans hg2)
 obtain rfl:=Option.some.inj (gComps.symm.trans hg3)
 obtain rfl:=Option.some.inj (tShapes.symm.trans ht0)
 obtain rfl:=Option.some.inj (tForms.symm.trans ht1)
 obtain rfl:=Option.some.inj (tEnds.symm.trans ht2)
 obtain rfl:=Option.some.inj (tComps.symm.trans ht3)
 have c0:∀ j,W.cell? ⟨2,j,none⟩=cs0[j]?:=World.var?_cell hg0 hv0
 have c1:∀ j,W.cell? ⟨5,j,none⟩=cs1[j]?:=World.var?_cell hg1 hv1
 have c2:∀ j,W.cell? ⟨3,j,none⟩=cs2[j]?:=World.var?_cell hg2 hv2
 have c3:∀ j,W.cell? ⟨4,j,none⟩=cs3[j]?:=World.var?_cell hg3 hv3
 have a0:∀ j u,cs0.toList[j]?=some u→W.cell? ⟨2,j,none⟩=some u:=fun j u hu=>by rw [c0];simpa using hu
 have a1:∀ j u,cs1.toList[j]?=some u→W.cell? ⟨5,j,none⟩=some u:=fun j u hu=>by rw [c1];simpa using hu
 have a2:∀ j u,cs2.toList[j]?=some u→W.cell? ⟨3,j,none⟩=some u:=fun j u hu=>by rw [c2];simpa using hu
 have a3:∀ j u,cs3.toList[j]?=some u→W.cell? ⟨4,j,none⟩=some u:=fun j u hu=>by rw [c3];simpa using hu
 refine ⟨⟨⟨?_,?_⟩,?_,?_⟩,?_⟩
 ·obtain ⟨xs,m0,rfl,hx,-,hn,hel⟩:=DataW.trod_array Tryd.underlying204 hd0
  simp only [laidCells66] at hel
  match xs,hn with
  | [x0,x1,x2,x3,x4,x5,x6,x7],_ =>
   simp only [Rows.laid_punctual_tongue_shapes,Prod.mk.injEq,DataW.agg.injEq,List.map_cons,List.map_nil,List.cons.injEq,and_true] at hx
   obtain ⟨⟨e0,e1,e2,e3,e4,e5,e6,e7⟩,-⟩:=hx
   intro m h1 h2
   match m,h1,h2 with
   | 1,_,_ =>
    have r:=row66 (o:=1*6) (show DataW.trod _ Tryd.prog W 0 _ _ m0 203 ((cs0.toList.drop (1*6)).take 6)=some x1 from hel 1 (by omega)) e1.symm
    exact ⟨a0 _ _ r.1,a0 _ _ r.2.1,a0 _ _ r.2.2.1,a0 _ _ r.2.2.2.1,a0 _ _ r.2.2.2.2.1,a0 _ _ r.2.2.2.2.2⟩
   | 2,_,_ =>
    have r:=row66 (o:=2*6) (show DataW.trod _ Tryd.prog W 0 _ _ m0 203 ((cs0.toList.drop (2*6)).take 6)=some x2 from hel 2 (by omega)) e2.symm
    exact ⟨a0 _ _ r.1,a0 _ _ r.2.1,a0 _ _ r.2.2.1,a0 _ _ r.2.2.2.1,a0 _ _ r.2.2.2.2.1,a0 _ _ r.2.2.2.2.2⟩
   | 3,_,_ =>
    have r:=row66 (o:=3*6) (show DataW.trod _ Tryd.prog W 0 _ _ m0 203 ((cs0.toList.drop (3*6)).take 6)=some x3 from hel 3 (by omega)) e3.symm
    exact ⟨a0 _ _ r.1,a0 _ _ r.2.1,a0 _ _ r.2.2.1,a0 _ _ r.2.2.2.1,a0 _ _ r.2.2.2.2.1,a0 _ _ r.2.2.2.2.2⟩
   | 4,_,_ =>
    have r:=row66 (o:=4*6) (show DataW.trod _ Tryd.prog W 0 _ _ m0 203 ((cs0.toList.drop (4*6)).take 6)=some x4 from hel 4 (by omega)) e4.symm
    exact ⟨a0 _ _ r.1,a0 _ _ r.2.1,a0 _ _ r.2.2.1,a0 _ _ r.2.2.2.1,a0 _ _ r.2.2.2.2.1,a0 _ _ r.2.2.2.2.2⟩
   | 5,_,_ =>
    have r:=row66 (o:=5*6) (show DataW.trod _ Tryd.prog W 0 _ _ m0 203 ((cs0.toList.drop (5*6)).take 6)=some x5 from hel 5 (by omega)) e5.symm
    exact ⟨a0 _ _ r.1,a0 _ _ r.2.1,a0 _ _ r.2.2.1,a0 _ _ r.2.2.2.1,a0 _ _ r.2.2.2.2.1,a0 _ _ r.2.2.2.2.2⟩
   | 6,_,_ =>
    have r:=row66 (o:=6*6) (show DataW.trod _ Tryd.prog W 0 _ _ m0 203 ((cs0.toList.drop (6*6)).take 6)=some x6 from hel 6 (by omega)) e6.symm
    exact ⟨a0 _ _ r.1,a0 _ _ r.2.1,a0 _ _ r.2.2.1,a0 _ _ r.2.2.2.1,a0 _ _ r.2.2.2.2.1,a0 _ _ r.2.2.2.2.2⟩
   | 7,_,_ =>
    have r:=row66 (o:=7*6) (show DataW.trod _ Tryd.prog W 0 _ _ m0 203 ((cs0.toList.drop (7*6)).take 6)=some x7 from hel 7 (by omega)) e7.symm
    exact ⟨a0 _ _ r.1,a0 _ _ r.2.1,a0 _ _ r.2.2.1,a0 _ _ r.2.2.2.1,a0 _ _ r.2.2.2.2.1,a0 _ _ r.2.2.2.2.2⟩
 ·obtain ⟨xs,m0,rfl,hx,-,hn,hel⟩:=DataW.trod_array Tryd.underlying226 hd1
  simp only [laidCellsF] at hel
  match xs,hn with
  | [x0,x1,x2,x3,x4,x5,x6,x7],_ =>
   simp only [Rows.laid_punctual_tongue_forms,Prod.mk.injEq,DataW.agg.injEq,List.map_cons,List.map_nil,List.cons.injEq,and_true] at hx
   obtain ⟨⟨e0,e1,e2,e3,e4,e5,e6,e7⟩,-⟩:=hx
   intro m h1 h2
   match m,h1,h2 with
   | 1,_,_ =>
    have r:=rowF (o:=1*2) (show DataW.trod _ Tryd.prog W 0 _ _ m0 225 ((cs1.toList.drop (1*2)).take 2)=some x1 from hel 1 (by omega)) e1.symm
    exact ⟨a1 _ _ r.1,a1 _ _ r.2⟩
   | 2,_,_ =>
    have r:=rowF (o:=2*2) (show DataW.trod _ Tryd.prog W 0 _ _ m0 225 ((cs1.toList.drop (2*2)).take 2)=some x2 from hel 2 (by omega)) e2.symm
    exact ⟨a1 _ _ r.1,a1 _ _ r.2⟩
   | 3,_,_ =>
    have r:=rowF (o:=3*2) (show DataW.trod _ Tryd.prog W 0 _ _ m0 225 ((cs1.toList.drop (3*2)).take 2)=some x3 from hel 3 (by omega)) e3.symm
    exact ⟨a1 _ _ r.1,a1 _ _ r.2⟩
   | 4,_,_ =>
    have r:=rowF (o:=4*2) (show DataW.trod _ Tryd.prog W 0 _ _ m0 225 ((cs1.toList.drop (4*2)).take 2)=some x4 from hel 4 (by omega)) e4.symm
    exact ⟨a1 _ _ r.1,a1 _ _ r.2⟩
   | 5,_,_ =>
    have r:=rowF (o:=5*2) (show DataW.trod _ Tryd.prog W 0 _ _ m0 225 ((cs1.toList.drop (5*2)).take 2)=some x5 from hel 5 (by omega)) e5.symm
    exact ⟨a1 _ _ r.1,a1 _ _ r.2⟩
   | 6,_,_ =>
    have r:=rowF (o:=6*2) (show DataW.trod _ Tryd.prog W 0 _ _ m0 225 ((cs1.toList.drop (6*2)).take 2)=some x6 from hel 6 (by omega)) e6.symm
    exact ⟨a1 _ _ r.1,a1 _ _ r.2⟩
   | 7,_,_ =>
    have r:=rowF (o:=7*2) (show DataW.trod _ Tryd.prog W 0 _ _ m0 225 ((cs1.toList.drop (7*2)).take 2)=some x7 from hel 7 (by omega)) e7.symm
    exact ⟨a1 _ _ r.1,a1 _ _ r.2⟩
 ·obtain ⟨xs,m0,rfl,hx,-,hn,hel⟩:=DataW.trod_array Tryd.underlying88 hd2
  simp only [laidCells3] at hel
  match xs,hn with
  | [x0,x1,x2,x3,x4,x5,x6,x7],_ =>
   simp only [Rows.laid_punctual_compile_ends,Prod.mk.injEq,DataW.agg.injEq,List.map_cons,List.map_nil,List.cons.injEq,and_true] at hx
   obtain ⟨⟨e0,e1,e2,e3,e4,e5,e6,e7⟩,-⟩:=hx
   exact ⟨a2 _ _ (numC (o:=1*1) (show DataW.trod _ Tryd.prog W 0 _ _ m0 3 ((cs2.toList.drop (1*1)).take 1)=some x1 from hel 1 (by omega)) e1.symm),a2 _ _ (numC (o:=2*1) (show DataW.trod _ Tryd.prog W 0 _ _ m0 3 ((cs2.toList.drop (2*1)).take 1)=some x2 from hel 2 (by omega)) e2.symm),a2 _ _ (numC (o:=3*1) (show DataW.trod _ Tryd.prog W 0 _ _ m0 3 ((cs2.toList.drop (3*1)).take 1)=some x3 from hel 3 (by omega)) e3.symm),a2 _ _ (numC (o:=5*1) (show DataW.trod _ Tryd.prog W 0 _ _ m0 3 ((cs2.toList.drop (5*1)).take 1)=some x5 from hel 5 (by omega)) e5.symm),a2 _ _ (numC (o:=6*1) (show DataW.trod _ Tryd.prog W 0 _ _ m0 3 ((cs2.toList.drop (6*1)).take 1)=some x6 from hel 6 (by omega)) e6.symm),a2 _ _ (numC (o:=7*1) (show DataW.trod _ Tryd.prog W 0 _ _ m0 3 ((cs2.toList.drop (7*1)).take 1)=some x7 from hel 7 (by omega)) e7.symm)⟩
 ·obtain ⟨xs,m0,rfl,hx,-,hn,hel⟩:=DataW.trod_array Tryd.underlying223 hd3
  simp only [laidCellsC] at hel
  match xs,hn with
  | [x0,x1,x2,x3,x4],_ =>
   simp only [Rows.laid_punctual_compile_comparisons,Prod.mk.injEq,DataW.agg.injEq,List.map_cons,List.map_nil,List.cons.injEq,and_true] at hx
   obtain ⟨⟨e0,e1,e2,e3,e4⟩,-⟩:=hx
   intro m h1 h2
   match m,h1,h2 with
   | 1,_,_ =>
    have r:=rowC (o:=1*2) (show DataW.trod _ Tryd.prog W 0 _ _ m0 222 ((cs3.toList.drop (1*2)).take 2)=some x1 from hel 1 (by omega)) e1.symm
    exact ⟨a3 _ _ r.1,a3 _ _ r.2⟩
   | 2,_,_ =>
    have r:=rowC (o:=2*2) (show DataW.trod _ Tryd.prog W 0 _ _ m0 222 ((cs3.toList.drop (2*2)).take 2)=some x2 from hel 2 (by omega)) e2.symm
    exact ⟨a3 _ _ r.1,a3 _ _ r.2⟩
   | 3,_,_ =>
    have r:=rowC (o:=3*2) (show DataW.trod _ Tryd.prog W 0 _ _ m0 222 ((cs3.toList.drop (3*2)).take 2)=some x3 from hel 3 (by omega)) e3.symm
    exact ⟨a3 _ _ r.1,a3 _ _ r.2⟩
   | 4,_,_ =>
    have r:=rowC (o:=4*2) (show DataW.trod _ Tryd.prog W 0 _ _ m0 222 ((cs3.toList.drop (4*2)).take 2)=some x4 from hel 4 (by omega)) e4.symm
    exact ⟨a3 _ _ r.1,a3 _ _ r.2⟩
 ·obtain ⟨xs,m0,rfl,hx,-,hn,hel⟩:=DataW.trod_array Tryd.underlying112 hdk
  simp only [laidCells104] at hel
  match xs,hn with
  | [x0,x1,x2,x3,x4,x5,x6,x7,x8,x9,x10,x11,x12,x13,x14,x15,x16,x17,x18],_ =>
   simp only [Rows.laid_punctual_mach_kinds,Prod.mk.injEq,DataW.agg.injEq,List.map_cons,List.map_nil,List.cons.injEq,and_true] at hx
   obtain ⟨⟨e0,e1,e2,e3,e4,e5,e6,e7,e8,e9,e10,e11,e12,e13,e14,e15,e16,e17,e18⟩,-⟩:=hx
   have a0:∀ j u,csk.toList[j]?=some u→W.cell? ⟨1,j,none⟩=some u:=fun j u hu=>by rw [ck];simpa using hu
   intro m h1 h2
   have h:m=1∨m=2∨m=3∨m=4∨m=5∨m=6∨m=7∨m=8∨m=9∨m=10∨m=11∨m=12∨m=13∨m=14∨m=15∨m=16∨m=17∨m=18:=by omega
   rcases h with rfl | rfl | rfl | rfl | rfl | rfl | rfl | rfl | rfl | rfl | rfl | rfl | rfl | rfl | rfl | rfl | rfl | rfl
   ·obtain ⟨r0,r1,r2,r3,r4,r5⟩:=row104 (o:=1*6) (show DataW.trod _ Tryd.prog W 0 _ _ m0 111 ((csk.toList.drop (1*6)).take 6)=some x1 from hel 1 (by omega)) e1.symm
    exact ⟨a0 _ _ r0,a0 _ _ r1,a0 _ _ r2,a0 _ _ r3,a0 _ _ r4,a0 _ _ r5⟩
   ·obtain ⟨r0,r1,r2,r3,r4,r5⟩:=row104 (o:=2*6) (show DataW.trod _ Tryd.prog W 0 _ _ m0 111 ((csk.toList.drop (2*6)).take 6)=some x2 from hel 2 (by omega)) e2.symm
    exact ⟨a0 _ _ r0,a0 _ _ r1,a0 _ _ r2,a0 _ _ r3,a0 _ _ r4,a0 _ _ r5⟩
   ·obtain ⟨r0,r1,r2,r3,r4,r5⟩:=row104 (o:=3*6) (show DataW.trod _ Tryd.prog W 0 _ _ m0 111 ((csk.toList.drop (3*6)).take 6)=some x3 from hel 3 (by omega)) e3.symm
    exact ⟨a0 _ _ r0,a0 _ _ r1,a0 _ _ r2,a0 _ _ r3,a0 _ _ r4,a0 _ _ r5⟩
   ·obtain ⟨r0,r1,r2,r3,r4,r5⟩:=row104 (o:=4*6) (show DataW.trod _ Tryd.prog W 0 _ _ m0 111 ((csk.toList.drop (4*6)).take 6)=some x4 from hel 4 (by omega)) e4.symm
    exact ⟨a0 _ _ r0,a0 _ _ r1,a0 _ _ r2,a0 _ _ r3,a0 _ _ r4,a0 _ _ r5⟩
   ·obtain ⟨r0,r1,r2,r3,r4,r5⟩:=row104 (o:=5*6) (show DataW.trod _ Tryd.prog W 0 _ _ m0 111 ((csk.toList.drop (5*6)).take 6)=some x5 from hel 5 (by omega)) e5.symm
    exact ⟨a0 _ _ r0,a0 _ _ r1,a0 _ _ r2,a0 _ _ r3,a0 _ _ r4,a0 _ _ r5⟩
   ·obtain ⟨r0,r1,r2,r3,r4,r5⟩:=row104 (o:=6*6) (show DataW.trod _ Tryd.prog W 0 _ _ m0 111 ((csk.toList.drop (6*6)).take 6)=some x6 from hel 6 (by omega)) e6.symm
    exact ⟨a0 _ _ r0,a0 _ _ r1,a0 _ _ r2,a0 _ _ r3,a0 _ _ r4,a0 _ _ r5⟩
   ·obtain ⟨r0,r1,r2,r3,r4,r5⟩:=row104 (o:=7*6) (show DataW.trod _ Tryd.prog W 0 _ _ m0 111 ((csk.toList.drop (7*6)).take 6)=some x7 from hel 7 (by omega)) e7.symm
    exact ⟨a0 _ _ r0,a0 _ _ r1,a0 _ _ r2,a0 _ _ r3,a0 _ _ r4,a0 _ _ r5⟩
   ·obtain ⟨r0,r1,r2,r3,r4,r5⟩:=row104 (o:=8*6) (show DataW.trod _ Tryd.prog W 0 _ _ m0 111 ((csk.toList.drop (8*6)).take 6)=some x8 from hel 8 (by omega)) e8.symm
    exact ⟨a0 _ _ r0,a0 _ _ r1,a0 _ _ r2,a0 _ _ r3,a0 _ _ r4,a0 _ _ r5⟩
   ·obtain ⟨r0,r1,r2,r3,r4,r5⟩:=row104 (o:=9*6) (show DataW.trod _ Tryd.prog W 0 _ _ m0 111 ((csk.toList.drop (9*6)).take 6)=some x9 from hel 9 (by omega)) e9.symm
    exact ⟨a0 _ _ r0,a0 _ _ r1,a0 _ _ r2,a0 _ _ r3,a0 _ _ r4,a0 _ _ r5⟩
   ·obtain ⟨r0,r1,r2,r3,r4,r5⟩:=row104 (o:=10*6) (show DataW.trod _ Tryd.prog W 0 _ _ m0 111 ((csk.toList.drop (10*6)).take 6)=some x10 from hel 10 (by omega)) e10.symm
    exact ⟨a0 _ _ r0,a0 _ _ r1,a0 _ _ r2,a0 _ _ r3,a0 _ _ r4,a0 _ _ r5⟩
   ·obtain ⟨r0,r1,r2,r3,r4,r5⟩:=row104 (o:=11*6) (show DataW.trod _ Tryd.prog W 0 _ _ m0 111 ((csk.toList.drop (11*6)).take 6)=some x11 from hel 11 (by omega)) e11.symm
    exact ⟨a0 _ _ r0,a0 _ _ r1,a0 _ _ r2,a0 _ _ r3,a0 _ _ r4,a0 _ _ r5⟩
   ·obtain ⟨r0,r1,r2,r3,r4,r5⟩:=row104 (o:=12*6) (show DataW.trod _ Tryd.prog W 0 _ _ m0 111 ((csk.toList.drop (12*6)).take 6)=some x12 from hel 12 (by omega)) e12.symm
    exact ⟨a0 _ _ r0,a0 _ _ r1,a0 _ _ r2,a0 _ _ r3,a0 _ _ r4,a0 _ _ r5⟩
   ·obtain ⟨r0,r1,r2,r3,r4,r5⟩:=row104 (o:=13*6) (show DataW.trod _ Tryd.prog W 0 _ _ m0 111 ((csk.toList.drop (13*6)).take 6)=some x13 from hel 13 (by omega)) e13.symm
    exact ⟨a0 _ _ r0,a0 _ _ r1,a0 _ _ r2,a0 _ _ r3,a0 _ _ r4,a0 _ _ r5⟩
   ·obtain ⟨r0,r1,r2,r3,r4,r5⟩:=row104 (o:=14*6) (show DataW.trod _ Tryd.prog W 0 _ _ m0 111 ((csk.toList.drop (14*6)).take 6)=some x14 from hel 14 (by omega)) e14.symm
    exact ⟨a0 _ _ r0,a0 _ _ r1,a0 _ _ r2,a0 _ _ r3,a0 _ _ r4,a0 _ _ r5⟩
   ·obtain ⟨r0,r1,r2,r3,r4,r5⟩:=row104 (o:=15*6) (show DataW.trod _ Tryd.prog W 0 _ _ m0 111 ((csk.toList.drop (15*6)).take 6)=some x15 from hel 15 (by omega)) e15.symm
    exact ⟨a0 _ _ r0,a0 _ _ r1,a0 _ _ r2,a0 _ _ r3,a0 _ _ r4,a0 _ _ r5⟩
   ·obtain ⟨r0,r1,r2,r3,r4,r5⟩:=row104 (o:=16*6) (show DataW.trod _ Tryd.prog W 0 _ _ m0 111 ((csk.toList.drop (16*6)).take 6)=some x16 from hel 16 (by omega)) e16.symm
    exact ⟨a0 _ _ r0,a0 _ _ r1,a0 _ _ r2,a0 _ _ r3,a0 _ _ r4,a0 _ _ r5⟩
   ·obtain ⟨r0,r1,r2,r3,r4,r5⟩:=row104 (o:=17*6) (show DataW.trod _ Tryd.prog W 0 _ _ m0 111 ((csk.toList.drop (17*6)).take 6)=some x17 from hel 17 (by omega)) e17.symm
    exact ⟨a0 _ _ r0,a0 _ _ r1,a0 _ _ r2,a0 _ _ r3,a0 _ _ r4,a0 _ _ r5⟩
   ·obtain ⟨r0,r1,r2,r3,r4,r5⟩:=row104 (o:=18*6) (show DataW.trod _ Tryd.prog W 0 _ _ m0 111 ((csk.toList.drop (18*6)).take 6)=some x18 from hel 18 (by omega)) e18.symm
    exact ⟨a0 _ _ r0,a0 _ _ r1,a0 _ _ r2,a0 _ _ r3,a0 _ _ r4,a0 _ _ r5⟩
end Go.Proofs.YtnkgbkkakokciacDoor.B
