import Derived.Test.YtnkgbkkakokciacDoorGJumps
import Derived.Test.YtnkgbkkakokciacDoorGMOver
import Derived.Test.YtnkgbkkakokciacDoorGKinds
import Derived.Test.YtnkgbkkakokciacDoorGRB
import Derived.MapKept
namespace Go.Proofs.YtnkgbkkakokciacDoor.B
open Go.ChangeShapes Go.WideShapes Go.ChangeAt Go.RowKit
theorem bulk_pos':∀ s:St,1≤s.bulk
 | .mk k n e ck ca cb b l=>by unfold St.bulk;omega
end Go.Proofs.YtnkgbkkakokciacDoor.B
namespace Go.Proofs.YtnkgbkkakokciacDoor
open Go.ChangeShapes Go.WideShapes Go.ChangeAt Go.RowKit
theorem look_found {w:World} {q clock i:Nat} {es:Array MapEntry} {z:Int} {v:Value} (h:w.heap[q]?=some (.map es clock)) (hf:Instr.findNow (.int .i64) (.int .i64 z) es.toList 0=some (some (i,v))) :
  (Instr.lookup 90 (.map (some q)) (.int .i64 z) true).run Tryd.prog w = .ok (.tuple #[v,.bool true]) w:=by
 have hck:∀ e:Bool,(Instr.checkKey e 10000 3 (.int .i64 z)).run Tryd.prog w = .ok () w:=fun e=>MapKept.run_checkKey (d:=.int .i64) (k:=.int .i64 z) Tryd.underlying3 (by simp [MapKept.IsKey]) e 9999
 simp [Instr.lookup,run_underlying Tryd.underlying90,MapKept.run_getObj_map h,hck,MapKept.run_findKey (d:=.int .i64) Tryd.underlying3 hf,Result.andThen]
theorem infoOp:(Tryd.prog.info? 154).map (fun i=>(i.zero,i.size,i.bytes))=some (some .nilFunc,1,8):=by kernel_rfl
theorem look_none {w:World} {q clock:Nat} {es:Array MapEntry} {z:Int} (h:w.heap[q]?=some (.map es clock)) (hf:Instr.findNow (.int .i64) (.int .i64 z) es.toList 0=some none) :
  (Instr.lookup 90 (.map (some q)) (.int .i64 z) true).run Tryd.prog w = .ok (.tuple #[.nilFunc,.bool false]) w:=by
 have hck:∀ e:Bool,(Instr.checkKey e 10000 3 (.int .i64 z)).run Tryd.prog w = .ok () w:=fun e=>MapKept.run_checkKey (d:=.int .i64) (k:=.int .i64 z) Tryd.underlying3 (by simp [MapKept.IsKey]) e 9999
 obtain ⟨i0,hi0,hz0,hz1,hz2⟩:=info_parts infoOp
 simp [Instr.lookup,run_underlying Tryd.underlying90,MapKept.run_getObj_map h,hck,MapKept.run_findKey (d:=.int .i64) Tryd.underlying3 hf,Result.andThen,zeroValue,typeInfo,hi0,hz0]
theorem ops_find (g:Nat):Instr.findNow (.int .i64) (.int .i64 4) (opsEs g).toList 0=some (some (0,.func (Fn.func 88) #[] #[]))∧Instr.findNow (.int .i64) (.int .i64 5) (opsEs g).toList 0=some (some (1,.func (Fn.func 89) #[] #[]))∧Instr.findNow (.int .i64) (.int .i64 6) (opsEs g).toList 0=some (some (2,.func (Fn.func 90) #[] #[]))∧Instr.findNow (.int .i64) (.int .i64 7) (opsEs g).toList 0=some (some (3,.func (Fn.func 91) #[] #[.pointer (some ⟨g,0,none⟩)]))∧Instr.findNow (.int .i64) (.int .i64 8) (opsEs g).toList 0=some (some (4,.func (Fn.func 92) #[] #[.pointer (some ⟨g,0,none⟩)])) :=
 ⟨rfl,rfl,rfl,rfl,rfl⟩
theorem ops_none (g:Nat) {z:Int} (h:z<4∨8<z):Instr.findNow (.int .i64) (.int .i64 z) (opsEs g).toList 0=some none:=by
 have e4:(z == 4)=false:=by simp;omega
 have e5:(z == 5)=false:=by simp;omega
 have e6:(z == 6)=false:=by simp;omega
 have e7:(z == 7)=false:=by simp;omega
 have e8:(z == 8)=false:=by simp;omega
 simp [opsEs,Instr.findNow,Instr.sameNow,e4,e5,e6,e7,e8]
section
variable (w:World) (a b:Int)
set_option maxRecDepth 20000 in
set_option maxHeartbeats 4000000 in
theorem holds_any (w:World) (so:Bool):Calls Tryd.prog 87 #[.bool so] w fun r w'=>r = .returned (.int .i64 (if so=true then 1 else 0))∧w'=w:=by
 cases so
 ·go_enter Tryd.func87,Tryd.ntmps87
  go_wp2_with fail
  go_ret
  exact ⟨rfl,rfl⟩
 ·go_enter Tryd.func87,Tryd.ntmps87
  go_wp2_with fail
  go_ret
  exact ⟨rfl,rfl⟩
set_option maxRecDepth 20000 in
set_option maxHeartbeats 4000000 in
theorem add_any:Calls Tryd.prog 88 #[.int .i64 a,.int .i64 b] w fun r w'=>r = .returned (.int .i64 (wrap64 (a+b)))∧w'=w:=by
 go_enter Tryd.func88,Tryd.ntmps88
 go_wp2_with fail
 go_ret
 exact ⟨rfl,rfl⟩
set_option maxRecDepth 20000 in
set_option maxHeartbeats 4000000 in
theorem sub_any:Calls Tryd.prog 89 #[.int .i64 a,.int .i64 b] w fun r w'=>r = .returned (.int .i64 (wrap64 (a - b)))∧w'=w:=by
 go_enter Tryd.func89,Tryd.ntmps89
 go_wp2_with fail
 go_ret
 exact ⟨rfl,rfl⟩
set_option maxRecDepth 20000 in
set_option maxHeartbeats 4000000 in
theorem mul_any:Calls Tryd.prog 90 #[.int .i64 a,.int .i64 b] w fun r w'=>r = .returned (.int .i64 (wrap64 (a*b)))∧w'=w:=by
 go_enter Tryd.func90,Tryd.ntmps90
 go_wp2_with fail
 go_ret
 exact ⟨rfl,rfl⟩
set_option maxRecDepth 20000 in
set_option maxHeartbeats 4000000 in
theorem less_any (g:Nat) (h:w.cell? ⟨g,0,none⟩=some (.func (Fn.func 87) #[] #[])):Calls Tryd.prog 91 #[.int .i64 a,.int .i64 b,.pointer (some ⟨g,0,none⟩)] w fun r w'=>r = .returned (.int .i64 (if a<b then 1 else 0))∧w'=w:=by
 by_cases hab:a<b
 ·rw [if_pos hab]
  go_enter Tryd.func91,Tryd.ntmps91
  go_wp2_with (go_at_call 87;refine (holds_any _ _).mono ?_;rintro r w3 ⟨rfl,rfl⟩)
  go_ret
  exact ⟨by simp,rfl⟩
 ·rw [if_neg hab]
  go_enter Tryd.func91,Tryd.ntmps91
  go_wp2_with (go_at_call 87;refine (holds_any _ _).mono ?_;rintro r w3 ⟨rfl,rfl⟩)
  go_ret
  exact ⟨by simp,rfl⟩
set_option maxRecDepth 20000 in
set_option maxHeartbeats 4000000 in
theorem same_any (g:Nat) (h:w.cell? ⟨g,0,none⟩=some (.func (Fn.func 87) #[] #[])):Calls Tryd.prog 92 #[.int .i64 a,.int .i64 b,.pointer (some ⟨g,0,none⟩)] w fun r w'=>r = .returned (.int .i64 (if a=b then 1 else 0))∧w'=w:=by
 by_cases hab:a=b
 ·rw [if_pos hab]
  go_enter Tryd.func92,Tryd.ntmps92
  go_wp2_with (go_at_call 87;refine (holds_any _ _).mono ?_;rintro r w3 ⟨rfl,rfl⟩)
  go_ret
  exact ⟨by simp,rfl⟩
 ·rw [if_neg hab]
  go_enter Tryd.func92,Tryd.ntmps92
  go_wp2_with (go_at_call 87;refine (holds_any _ _).mono ?_;rintro r w3 ⟨rfl,rfl⟩)
  go_ret
  exact ⟨by simp,rfl⟩
end
structure XB (w:World) (mb xb:Nat) (x:In) (sv pv:Value):Prop where
 blk:w.heap[xb]?=some (.cells #[.int .i64 x.op,.int .i64 x.a,.int .i64 x.b] 35 (0,0))
 nmb:xb≠mb
 nsv:some xb≠sv.ownBlock
 npv:some xb≠pv.ownBlock
theorem XB.step {w w':World} {mb xb:Nat} {x:In} {sv pv sv' pv':Value} (h:XB w mb xb x sv pv) (hr:MR mb w w' sv pv sv' pv'):XB w' mb xb x sv' pv':=by
 have lx:xb<w.heap.size:=(Array.getElem?_eq_some_iff.1 h.blk).1
 refine ⟨(hr.block xb lx h.nmb h.nsv h.npv).trans h.blk,h.nmb,fun e=>?_,fun e=>?_⟩
 ·rcases hr.ownS with ho | ho
  ·exact h.nsv (e.trans ho)
  ·have:=ho xb e.symm;omega
 ·rcases hr.ownP with ho | ho
  ·exact h.npv (e.trans ho)
  ·have:=ho xb e.symm;omega
structure DS (w W:World) (mb B:Nat) (l:List In) (iv ov:Value) (ins:List Int) (sp:Int) (x:In) (s':MS) (sv pv sv' pv':Value):Prop where
 mm:MM W mb B l iv ov ins sp s' sv' pv'
 xb:XB W mb w.heap.size x sv' pv'
 mr:MR mb w W sv pv sv' pv'
section
variable {w W W':World} {mb B:Nat} {l:List In} {iv ov:Value} {ins:List Int} {sp:Int} {x:In} {s s' s'':MS} {sv pv sv' pv' sv'' pv'':Value}
theorem DS.start (h:MM w mb B l iv ov ins sp s sv pv) (x:In):DS w (w.alloc (.cells #[.int .i64 x.op,.int .i64 x.a,.int .i64 x.b] 35)) mb B l iv ov ins sp x s sv pv sv pv:=by
 have hlt:=h.lt
 refine ⟨h.grow (below_new _ _),⟨heap_alloc_new _ _,by omega,fun e=>?_,fun e=>?_⟩,MR.of_below (below_new _ _)⟩
 ·have:=(h.stk.lt _ e.symm).2;omega
 ·have:=(h.pts.lt _ e.symm).2;omega
theorem DS.step (h:DS w W mb B l iv ov ins sp x s' sv pv sv' pv') (hm:MM W' mb B l iv ov ins sp s'' sv'' pv'') (hr:MR mb W W' sv' pv' sv'' pv''):DS w W' mb B l iv ov ins sp x s'' sv pv sv'' pv'' :=
 ⟨hm,h.xb.step hr,h.mr.trans hr⟩
theorem DS.grow (h:DS w W mb B l iv ov ins sp x s' sv pv sv' pv') (hb:Below W.heap.size W W'):DS w W' mb B l iv ov ins sp x s' sv pv sv' pv' :=
 h.step (h.mm.grow hb) (MR.of_below hb)
theorem DS.setV (h:DS w W mb B l iv ov ins sp x s' sv pv sv' pv') {j:Nat} (hj:j<8) (v:Int):DS w (W.setCell ⟨mb,1+j,none⟩ (.int .i64 v)) mb B l iv ov ins sp x { s' with vs:=s'.vs.set j v } sv pv sv' pv':=by
 rw [Nat.add_comm]
 exact h.step (h.mm.setV hj v) ((MR.refl _ _ _ _).set _ _)
theorem DS.setC (h:DS w W mb B l iv ov ins sp x s' sv pv sv' pv') {j:Nat} (hj:j<8) (v:Int):DS w (W.setCell ⟨mb,13+j,none⟩ (.int .i64 v)) mb B l iv ov ins sp x { s' with cs:=s'.cs.set j v } sv pv sv' pv':=by
 rw [Nat.add_comm]
 exact h.step (h.mm.setC hj v) ((MR.refl _ _ _ _).set _ _)
theorem DS.setA (h:DS w W mb B l iv ov ins sp x s' sv pv sv' pv') (z:Nat):DS w (W.setCell ⟨mb,23,none⟩ (.int .i64 (z:Int))) mb B l iv ov ins sp x { s' with pc:=z } sv pv sv' pv' :=
 h.step (h.mm.setA z) ((MR.refl _ _ _ _).set _ _)
theorem DS.setA1 (h:DS w W mb B l iv ov ins sp x s' sv pv sv' pv'):DS w (W.setCell ⟨mb,23,none⟩ (.int .i64 ((s'.pc:Int)+1))) mb B l iv ov ins sp x { s' with pc:=s'.pc+1 } sv pv sv' pv':=by
 have:=h.setA (s'.pc+1)
 rwa [show ((s'.pc+1:Nat):Int)=(s'.pc:Int)+1 by simp] at this
theorem DS.reads (h:DS w W mb B l iv ov ins sp x s' sv pv sv' pv'):W.cell? ⟨w.heap.size,0,none⟩=some (.int .i64 x.op)∧W.cell? ⟨w.heap.size,1,none⟩=some (.int .i64 x.a)∧W.cell? ⟨w.heap.size,2,none⟩=some (.int .i64 x.b)∧W.cell? ⟨mb,23,none⟩=some (.int .i64 s'.pc)∧W.cell? ⟨mb,25,none⟩=some ov∧(∀ j,W.frozen? ⟨mb,j,none⟩=false)∧mb<W.heap.size∧w.heap.size<W.heap.size∧w.heap.size≠mb:=by
 obtain ⟨c1,c2,c3⟩:=cells_of (l:=[_,_,_]) h.xb.blk
 exact ⟨c1 0 _ rfl,c1 1 _ rfl,c1 2 _ rfl,h.mm.c_pc,h.mm.c_ov,h.mm.cells.2.1,h.mm.lt,c3,h.xb.nmb⟩
end
section
variable (w:World) (mb B:Nat) (l:List In) (iv ov:Value) (ins:List Int) (sp:Int) (s:MS) (sv pv:Value)
def Does (x:In) (r:Ending) (w':World):Prop:=r = .returned (.tuple #[])∧∃ sv' pv',MM w' mb B l iv ov ins sp (mdo ins x s) sv' pv'∧MR mb w w' sv pv sv' pv'
end
end Go.Proofs.YtnkgbkkakokciacDoor
