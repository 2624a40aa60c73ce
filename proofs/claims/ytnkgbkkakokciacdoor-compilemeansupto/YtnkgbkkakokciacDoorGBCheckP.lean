import Derived.Test.YtnkgbkkakokciacDoorGBInner
import Derived.Deep.DeepCutAuto
import Derived.Deep.CutRange
import Derived.Deep.RegionHeldLaw
import Derived.Test.YtnkgbkkakokciacDoorGKinds
namespace Go.Proofs.YtnkgbkkakokciacDoor.B
open Go.ChangeShapes Go.WideShapes Go.ChangeAt Go.RowKit
def lookR (b0 b1 hv hc b4 b5:Bool) (nE nC i:Int) (fin:Int × Int):Int × Int :=
 if b0=false then (3,i) else if b1=false then (6,i) else if hv=true∧nE≠0 then (nE,i) else if hc=true∧nC≠0 then (nC,i) else if b4=false then (2,i) else if b5=false then (10,i) else fin
theorem stmt_looks (X:World) (g cap q0 r0 q1 r1 q4 r4 q5 r5:Nat) (cE cC cI:Array Value) (b0 b1 hv hc b4 b5:Bool) (nE nC i:Int) (fin:Int × Int) (wb B:Nat) (v:Value) (ar:List (Int × Int)) (hk:Wk X wb B i v ar)
  (g0:X.cell? ⟨g,0,none⟩=some (.func (.func 151) #[] #[.pointer (some ⟨q0,0,none⟩),.pointer (some ⟨r0,0,none⟩)]))
  (g1:X.cell? ⟨g,1,none⟩=some (.func (.func 151) #[] #[.pointer (some ⟨q1,0,none⟩),.pointer (some ⟨r1,0,none⟩)]))
  (g2:X.cell? ⟨g,2,none⟩=some (if hv=true then .func (.func 154) #[] cE else .func (.func 153) #[] #[]))
  (g3:X.cell? ⟨g,3,none⟩=some (if hc=true then .func (.func 156) #[] cC else .func (.func 153) #[] #[]))
  (g4:X.cell? ⟨g,4,none⟩=some (.func (.func 151) #[] #[.pointer (some ⟨q4,0,none⟩),.pointer (some ⟨r4,0,none⟩)]))
  (g5:X.cell? ⟨g,5,none⟩=some (.func (.func 151) #[] #[.pointer (some ⟨q5,0,none⟩),.pointer (some ⟨r5,0,none⟩)]))
  (g6:X.cell? ⟨g,6,none⟩=some (.func (.func 157) #[] cI))
  (c0:X.cell? ⟨q0,0,none⟩=some (.bool b0)∧X.cell? ⟨r0,0,none⟩=some (.int .i64 3)) (c1:X.cell? ⟨q1,0,none⟩=some (.bool b1)∧X.cell? ⟨r1,0,none⟩=some (.int .i64 6))
  (c4:X.cell? ⟨q4,0,none⟩=some (.bool b4)∧X.cell? ⟨r4,0,none⟩=some (.int .i64 2)) (c5:X.cell? ⟨q5,0,none⟩=some (.bool b5)∧X.cell? ⟨r5,0,none⟩=some (.int .i64 10))
  (hE:∀ w,Below X.heap.size X w→Calls Tryd.prog 154 cE w fun r w'=>r = .returned (.int .i64 nE)∧Below w.heap.size w w')
  (hC:∀ w,Below X.heap.size X w→Calls Tryd.prog 156 cC w fun r w'=>r = .returned (.int .i64 nC)∧Below w.heap.size w w')
  (hI:∀ w,Below X.heap.size X w→Calls Tryd.prog 157 cI w fun r w'=>r = .returned (.int .i64 fin.1)∧∃ v',Wk w' wb B fin.2 v' ar∧WR wb w w' v v') :
  Calls Tryd.prog 136 #[.slice (some ⟨g,0,none⟩) 7 cap] X fun e w'=>e = .returned (.int .i64 (lookR b0 b1 hv hc b4 b5 nE nC i fin).1)∧∃ v',Wk w' wb B (lookR b0 b1 hv hc b4 b5 nE nC i fin).2 v' ar∧WR wb X w' v v':=by
 refine (first_any 7 (by omega) g cap (fun j=>if j=2 then (if hv=true then 154 else 153) else if j=3 then (if hc=true then 156 else 153) else if j=6 then 157 else 151)
  (fun j=>if j=0 then #[.pointer (some ⟨q0,0,none⟩),.pointer (some ⟨r0,0,none⟩)] else if j=1 then #[.pointer (some ⟨q1,0,none⟩),.pointer (some ⟨r1,0,none⟩)] else if j=2 then (if hv=true then cE else #[]) else if j=3 then (if hc=true then cC else #[])
   else if j=4 then #[.pointer (some ⟨q4,0,none⟩),.pointer (some ⟨r4,0,none⟩)] else if j=5 then #[.pointer (some ⟨q5,0,none⟩),.pointer (some ⟨r5,0,none⟩)] else cI)
  (fun j w=>(j≤6→Below X.heap.size X w∧(0<j→b0=true)∧(1<j→b1=true)∧(2<j→¬ (hv=true∧nE≠0))∧(3<j→¬ (hc=true∧nC≠0))∧(4<j→b4=true)∧(5<j→b5=true)) ∧
   (j=7→(lookR b0 b1 hv hc b4 b5 nE nC i fin).1=0∧∃ v',Wk w wb B (lookR b0 b1 hv hc b4 b5 nE nC i fin).2 v' ar∧WR wb X w v v'))
  (fun c w=>c=(lookR b0 b1 hv hc b4 b5 nE nC i fin).1∧∃ v',Wk w wb B (lookR b0 b1 hv hc b4 b5 nE nC i fin).2 v' ar∧WR wb X w v v') ?_ ?_ ?_ X ⟨fun _=>⟨Below.refl _ _,by omega,by omega,by omega,by omega,by omega,by omega⟩,by omega⟩).mono ?_
 ·intro j hj w hP
  have hb:=(hP.1 (by omega)).1
  match j,hj with
  | 0,_=>exact below_cell hb g0
  | 1,_=>exact below_cell hb g1
  | 2,_=>rw [below_cell hb g2];cases hv <;> rfl
  | 3,_=>rw [below_cell hb g3];cases hc <;> rfl
  | 4,_=>exact below_cell hb g4
  | 5,_=>exact below_cell hb g5
  | 6,_=>exact below_cell hb g6
 ·intro j hj w hP
  obtain ⟨hb,p0,p1,p2,p3,p4,p5⟩:=hP.1 (by omega)
  have stop:∀ (w':World) (c:Int),Below X.heap.size X w'→lookR b0 b1 hv hc b4 b5 nE nC i fin=(c,i)→c=(lookR b0 b1 hv hc b4 b5 nE nC i fin).1∧∃ v',Wk w' wb B (lookR b0 b1 hv hc b4 b5 nE nC i fin).2 v' ar∧WR wb X w' v v':=by
   intro w' c hb' e
   rw [e]
   exact ⟨rfl,v,hk.below hb',WR.of_below hb'⟩
  match j,hj with
  | 0,_ =>
   refine (needs1_any q0 r0 b0 3 w (below_cell hb c0.1) (below_cell hb c0.2)).mono ?_
   rintro e w' ⟨rfl,rfl⟩
   refine ⟨_,rfl,?_⟩
   cases b0
   ·exact .inr ⟨by simp,stop _ _ hb (by simp [lookR])⟩
   ·exact .inl ⟨by simp,fun _=>⟨hb,fun _=>rfl,by omega,by omega,by omega,by omega,by omega⟩,by omega⟩
  | 1,_ =>
   have e0:=p0 (by omega)
   refine (needs1_any q1 r1 b1 6 w (below_cell hb c1.1) (below_cell hb c1.2)).mono ?_
   rintro e w' ⟨rfl,rfl⟩
   refine ⟨_,rfl,?_⟩
   cases b1
   ·exact .inr ⟨by simp,stop _ _ hb (by simp [lookR,e0])⟩
   ·exact .inl ⟨by simp,fun _=>⟨hb,fun _=>e0,fun _=>rfl,by omega,by omega,by omega,by omega⟩,by omega⟩
  | 2,_ =>
   have e0:=p0 (by omega)
   have e1:=p1 (by omega)
   cases hv
   ·refine (only1_any w).mono ?_
    rintro e w' ⟨rfl,rfl⟩
    exact ⟨_,rfl,.inl ⟨rfl,fun _=>⟨hb,fun _=>e0,fun _=>e1,by simp,by omega,by omega,by omega⟩,by omega⟩⟩
   ·refine (hE w hb).mono ?_
    rintro e w' ⟨rfl,hb'⟩
    refine ⟨_,rfl,?_⟩
    by_cases hz:nE=0
    ·exact .inl ⟨hz,fun _=>⟨below_seq hb hb',fun _=>e0,fun _=>e1,by simp [hz],by omega,by omega,by omega⟩,by omega⟩
    ·exact .inr ⟨hz,stop _ _ (below_seq hb hb') (by simp [lookR,e0,e1,hz])⟩
  | 3,_ =>
   have e0:=p0 (by omega)
   have e1:=p1 (by omega)
   have e2:=p2 (by omega)
   cases hc
   ·refine (only1_any w).mono ?_
    rintro e w' ⟨rfl,rfl⟩
    exact ⟨_,rfl,.inl ⟨rfl,fun _=>⟨hb,fun _=>e0,fun _=>e1,fun _=>e2,by simp,by omega,by omega⟩,by omega⟩⟩
   ·refine (hC w hb).mono ?_
    rintro e w' ⟨rfl,hb'⟩
    refine ⟨_,rfl,?_⟩
    by_cases hz:nC=0
    ·exact .inl ⟨hz,fun _=>⟨below_seq hb hb',fun _=>e0,fun _=>e1,fun _=>e2,by simp [hz],by omega,by omega⟩,by omega⟩
    ·exact .inr ⟨hz,stop _ _ (below_seq hb hb') (by rw [lookR,if_neg (by simp [e0]),if_neg (by simp [e1]),if_neg e2,if_pos ⟨rfl,hz⟩])⟩
  | 4,_ =>
   have e0:=p0 (by omega)
   have e1:=p1 (by omega)
   have e2:=p2 (by omega)
   have e3:=p3 (by omega)
   refine (needs1_any q4 r4 b4 2 w (below_cell hb c4.1) (below_cell hb c4.2)).mono ?_
   rintro e w' ⟨rfl,rfl⟩
   refine ⟨_,rfl,?_⟩
   cases b4
   ·exact .inr ⟨by simp,stop _ _ hb (by rw [lookR,if_neg (by simp [e0]),if_neg (by simp [e1]),if_neg e2,if_neg e3];simp)⟩
   ·exact .inl ⟨by simp,fun _=>⟨hb,fun _=>e0,fun _=>e1,fun _=>e2,fun _=>e3,fun _=>rfl,by omega⟩,by omega⟩
  | 5,_ =>
   have e0:=p0 (by omega)
   have e1:=p1 (by omega)
   have e2:=p2 (by omega)
   have e3:=p3 (by omega)
   have e4:=p4 (by omega)
   refine (needs1_any q5 r5 b5 10 w (below_cell hb c5.1) (below_cell hb c5.2)).mono ?_
   rintro e w' ⟨rfl,rfl⟩
   refine ⟨_,rfl,?_⟩
   cases b5
   ·exact .inr ⟨by simp,stop _ _ hb (by rw [lookR,if_neg (by simp [e0]),if_neg (by simp [e1]),if_neg e2,if_neg e3,if_neg (by simp [e4])];simp)⟩
   ·exact .inl ⟨by simp,fun _=>⟨hb,fun _=>e0,fun _=>e1,fun _=>e2,fun _=>e3,fun _=>e4,fun _=>rfl⟩,by omega⟩
  | 6,_ =>
   have e0:=p0 (by omega)
   have e1:=p1 (by omega)
   have e2:=p2 (by omega)
   have e3:=p3 (by omega)
   have e4:=p4 (by omega)
   have e5:=p5 (by omega)
   have eR:lookR b0 b1 hv hc b4 b5 nE nC i fin=fin:=by rw [lookR,if_neg (by simp [e0]),if_neg (by simp [e1]),if_neg e2,if_neg e3,if_neg (by simp [e4]),if_neg (by simp [e5])]
   refine (hI w hb).mono ?_
   rintro e w' ⟨rfl,v',hk',hr'⟩
   refine ⟨_,rfl,?_⟩
   have hw:=(WR.of_below (wb:=wb) (v:=v) hb).trans hr'
   by_cases hz:fin.1=0
   ·exact .inl ⟨hz,by omega,fun _=>⟨by rw [eR];exact hz,v',by rw [eR];exact hk',hw⟩⟩
   ·exact .inr ⟨hz,by rw [eR],v',by rw [eR];exact hk',hw⟩
 ·intro j hj cp w
  match j,hj with
  | 0,_=>exact ent36 cp w
  | 1,_=>exact ent36 cp w
  | 2,_=>cases hv;exact ent38 cp w;exact ent39 cp w
  | 3,_=>cases hc;exact ent38 cp w;exact ent41 cp w
  | 4,_=>exact ent36 cp w
  | 5,_=>exact ent36 cp w
  | 6,_=>exact ent42 cp w
 ·rintro e w' ⟨c,rfl,h⟩
  rcases h with ⟨rfl,hP⟩ | ⟨_,rfl,h⟩
  ·obtain ⟨e,v',hk',hr'⟩:=hP.2 rfl
   exact ⟨ret_int (by rw [e]),v',hk',hr'⟩
  ·exact ⟨rfl,h⟩
end Go.Proofs.YtnkgbkkakokciacDoor.B
namespace Go.Proofs.YtnkgbkkakokciacDoor.B
open Go.ChangeShapes Go.WideShapes Go.ChangeAt Go.RowKit
theorem look_pure (P1:Prop) [Decidable P1] (m hv hc inn lt6 k6 held:Bool) (nE nC i:Int) (fin:Int × Int) (E:Int)
  (hE:E=if ¬ P1 then 3 else if m=true then 6 else if hv=true∧nE≠0 then nE else if hc=true∧nC≠0 then nC else if inn=true∧¬ (lt6=true) then 2 else if k6=true∧held=true then 10 else 0) :
  lookR (decide P1) (!m) hv hc (!inn || lt6) (!k6 || !held) nE nC i fin=if E≠0 then (E,i) else fin:=by
 unfold lookR
 by_cases h1:P1
 ·rw [if_neg (by simpa using h1)] at hE
  rw [if_neg (by simp [h1])]
  cases m
  ·rw [if_neg (by simp)] at hE
   rw [if_neg (by simp)]
   by_cases h2:hv=true∧nE≠0
   ·rw [if_pos h2] at hE
    rw [if_pos h2,hE,if_pos h2.2]
   ·rw [if_neg h2] at hE
    rw [if_neg h2]
    by_cases h3:hc=true∧nC≠0
    ·rw [if_pos h3] at hE
     rw [if_pos h3,hE,if_pos h3.2]
    ·rw [if_neg h3] at hE
     rw [if_neg h3]
     cases inn <;> cases lt6 <;> cases k6 <;> cases held <;> simp at hE <;> simp [hE]
  ·rw [if_pos rfl] at hE
   simp [hE]
 ·rw [if_pos h1] at hE
  simp [h1,hE]
theorem look_chk (k n:Int) (e:Ex) (ck:Int) (ca cb:Ex) (b l:List St) (ar:List (Int × Int)) (i:Int) (hk:¬ (k<1∨8≤k)) :
  lookR (decide (lowN k≤n∧n≤highN k)) (!moreS (valK k) (conK k) (innK k) (othK k) (exNone e.k e.n e.a.length) ck (exNone ca.k ca.n ca.a.length) (exNone cb.k cb.n cb.a.length) b.length l.length) (valK k) (conK k)
   (!innK k || decide ((ar.length:Int)<6)) (!decide (k=6) || !decide ((6,n) ∈ ar)) (e.node 0).1 (condErr ck ca cb) (i+1) (chk2 b l (ar++[(k,n)]) (i+1))=(St.mk k n e ck ca cb b l).chk ar i:=by
 have hc:(St.mk k n e ck ca cb b l).chk ar i=if (St.mk k n e ck ca cb b l).perr ar≠0 then ((St.mk k n e ck ca cb b l).perr ar,i+1) else chk2 b l (ar++[(k,n)]) (i+1):=by
  rw [St.chk];rfl
 rw [hc]
 refine look_pure _ _ _ _ _ _ _ _ _ _ _ _ _ ?_
 show progErr k n (exNone e.k e.n e.a.length) (e.node 0).1 ck (exNone ca.k ca.n ca.a.length) (exNone cb.k cb.n cb.a.length) (condErr ck ca cb) b.length l.length ar.length (decide ((6,n) ∈ ar))=_
 unfold progErr
 rw [if_neg hk]
 simp only [decide_eq_true_eq]
theorem none_chk (k n:Int) (e:Ex) (ck:Int) (ca cb:Ex) (b l:List St) (ar:List (Int × Int)) (i:Int) (hk:k<1∨8≤k):(St.mk k n e ck ca cb b l).chk ar i=(6,i+1):=by
 have hp:(St.mk k n e ck ca cb b l).perr ar=6:=by show progErr k n (exNone e.k e.n e.a.length) (e.node 0).1 ck (exNone ca.k ca.n ca.a.length) (exNone cb.k cb.n cb.a.length) (condErr ck ca cb) b.length l.length ar.length (decide ((6,n) ∈ ar))=6;unfold progErr;rw [if_pos hk]
 rw [St.chk,hp]
 rfl
def ShapesIn (w:World):Prop:=∀ m:Nat,1≤m→m<8→w.cell? ⟨2,m*6,none⟩=some (.int .i64 (lowN m))∧w.cell? ⟨2,m*6+1,none⟩=some (.int .i64 (highN m))∧w.cell? ⟨2,m*6+2,none⟩=some (.bool (valK m))∧w.cell? ⟨2,m*6+3,none⟩=some (.bool (conK m)) ∧
 w.cell? ⟨2,m*6+4,none⟩=some (.bool (innK m))∧w.cell? ⟨2,m*6+5,none⟩=some (.bool (othK m))
theorem ShapesIn.below {B:Nat} {w w':World} (h:ShapesIn w) (hB:2<B) (hb:Below B w w'):ShapesIn w':=fun m h1 h2 =>
 have k:∀ o x,w.cell? ⟨2,o,none⟩=some x→w'.cell? ⟨2,o,none⟩=some x:=fun _ _ hc=>(World.cell?_of_block (hb.block 2 hB)).trans hc
 have t:=h m h1 h2
 ⟨k _ _ t.1,k _ _ t.2.1,k _ _ t.2.2.1,k _ _ t.2.2.2.1,k _ _ t.2.2.2.2.1,k _ _ t.2.2.2.2.2⟩
end Go.Proofs.YtnkgbkkakokciacDoor.B
namespace Go.Proofs.YtnkgbkkakokciacDoor.B
open Go.ChangeShapes Go.WideShapes Go.ChangeAt Go.RowKit
theorem Wk.next {w:World} {wb B:Nat} {i:Int} {v:Value} {ar:List (Int × Int)} (h:Wk w wb B i v ar) (j:Int):Wk (w.setCell ⟨wb,0,none⟩ (.int .i64 j)) wb B j v ar∧WR wb w (w.setCell ⟨wb,0,none⟩ (.int .i64 j)) v v:=by
 obtain ⟨xs,ho,hac⟩:=h.owns
 refine ⟨⟨by simpa using setCell_at (i:=0) (u:=.int .i64 j) h.blk,⟨xs,ownsRow_setCell_below ho (by show wb<B;exact h.lt) _,hac⟩,h.lt,by rw [size_set];exact h.le⟩,⟨rfl,rfl,rfl,by rw [size_set];exact Nat.le_refl _,fun k _ h1 _=>Below.heap_setCell _ _ _ _ (by simpa using h1),.inl rfl⟩⟩
theorem Wk.begun {w:World} {wb B:Nat} {i:Int} {v:Value} {ar:List (Int × Int)} (h:Wk w wb B i v ar) (o:Obj) (j:Int):Wk ((w.setCell ⟨wb,0,none⟩ (.int .i64 j)).alloc o) wb B j v ar∧WR wb w ((w.setCell ⟨wb,0,none⟩ (.int .i64 j)).alloc o) v v :=
 have hb:Below (w.setCell ⟨wb,0,none⟩ (.int .i64 j)).heap.size (w.setCell ⟨wb,0,none⟩ (.int .i64 j)) ((w.setCell ⟨wb,0,none⟩ (.int .i64 j)).alloc o):=(Below.refl _ _).alloc (Nat.le_refl _) o
 ⟨(h.next j).1.below hb,(h.next j).2.trans (WR.of_below hb)⟩
set_option maxRecDepth 20000 in
set_option maxHeartbeats 4000000 in
theorem stmt_none (w:World) (wb B:Nat) (i:Int) (v:Value) (ar:List (Int × Int)) (hwk:Wk w wb B i v ar) (hi1 : -1≤i) (hi2:i≤2097152)
  (k n ek en ck ak an bk bn:Int) (ead aad bad yad lad:Option Addr) (em ec am ac bm bc ym yc lm lc:Nat) (hk:k<1∨8≤k) :
  Calls Tryd.prog 120 #[.pointer (some ⟨wb,0,none⟩),.agg #[.int .i64 k,.int .i64 n,.int .i64 ek,.int .i64 en,.slice ead em ec,.int .i64 ck,.int .i64 ak,.int .i64 an,.slice aad am ac,.int .i64 bk,.int .i64 bn,.slice bad bm bc,.slice yad ym yc,.slice lad lm lc]] w
   fun r w'=>r = .returned (.int .i64 6)∧∃ v',Wk w' wb B (i+1) v' ar∧WR wb w w' v v':=by
 have b0:w.cell? ⟨wb,0,none⟩=some (.int .i64 i):=by unfold World.cell?;rw [hwk.blk];rfl
 have hf:∀ j,w.frozen? ⟨wb,j,none⟩=false:=by intro j;unfold World.frozen?;rw [hwk.blk];simp
 have hl:wb<w.heap.size:=World.block_lt_of_cell? _ _ b0
 have HK:Hid (Wk w wb B i v ar):=hwk
 clear hwk
 by_cases h1:k<1
 ·have hd:decide (k<1)=true:=decide_eq_true h1
  go_enter Tryd.func120,Tryd.ntmps120
  go_wp2_with fail
  go_ret
  exact ⟨rfl,v,HK.out.begun _ _⟩
 ·have hd:decide (k<1)=false:=decide_eq_false h1
  have hd2:decide (8≤k)=true:=decide_eq_true (by omega)
  go_enter Tryd.func120,Tryd.ntmps120
  go_wp2_with fail
  go_ret
  exact ⟨rfl,v,HK.out.begun _ _⟩
end Go.Proofs.YtnkgbkkakokciacDoor.B
namespace Go.Proofs.YtnkgbkkakokciacDoor.B
open Go.ChangeShapes Go.WideShapes Go.ChangeAt Go.RowKit
theorem needs_b (b:Bool) (c:Int) (w:World):Calls Tryd.prog 137 #[.bool b,.int .i64 c] w fun r w'=>∃ q s,r = .returned (.func (.func 151) #[] #[.pointer (some ⟨q,0,none⟩),.pointer (some ⟨s,0,none⟩)])∧(w'.cell? ⟨q,0,none⟩=some (.bool b)∧w'.cell? ⟨s,0,none⟩=some (.int .i64 c))∧Below w.heap.size w w':=by
 refine (needs_any b c w).mono ?_
 rintro r w' ⟨rfl,rfl⟩
 exact ⟨_,_,rfl,⟨by simp [go_sem],by simp [go_sem]⟩,((Below.refl _ _).alloc (Nat.le_refl _) _).alloc (by simp) _⟩
theorem expr_b (k n:Int) (ad:Option Addr) (m c:Nat) (w:World):Calls Tryd.prog 140 #[.agg #[.int .i64 k,.int .i64 n,.slice ad m c]] w fun r w'=>∃ p,r = .returned (.func (.func 154) #[] #[.pointer (some ⟨p,0,none⟩)]) ∧
  (w'.cell? ⟨p,0,none⟩=some (.int .i64 k)∧w'.cell? ⟨p,1,none⟩=some (.int .i64 n)∧w'.cell? ⟨p,2,none⟩=some (.slice ad m c))∧Below w.heap.size w w':=by
 refine (expr_any k n ad m c w).mono ?_
 rintro r w' ⟨rfl,rfl⟩
 exact ⟨_,rfl,⟨by simp [go_sem],by simp [go_sem],by simp [go_sem]⟩,(Below.refl _ _).alloc (Nat.le_refl _) _⟩
theorem cond_b (ck ak an bk bn:Int) (aad bad:Option Addr) (am ac bm bc:Nat) (w:World):Calls Tryd.prog 141 #[.agg #[.int .i64 ck,.int .i64 ak,.int .i64 an,.slice aad am ac,.int .i64 bk,.int .i64 bn,.slice bad bm bc]] w fun r w' =>
  ∃ p,r = .returned (.func (.func 156) #[] #[.pointer (some ⟨p,0,none⟩)])∧(w'.cell? ⟨p,0,none⟩=some (.int .i64 ck)∧w'.cell? ⟨p,1,none⟩=some (.int .i64 ak)∧w'.cell? ⟨p,2,none⟩=some (.int .i64 an)∧w'.cell? ⟨p,3,none⟩=some (.slice aad am ac) ∧
   w'.cell? ⟨p,4,none⟩=some (.int .i64 bk)∧w'.cell? ⟨p,5,none⟩=some (.int .i64 bn)∧w'.cell? ⟨p,6,none⟩=some (.slice bad bm bc))∧Below w.heap.size w w':=by
 refine (cond_any ck ak an bk bn aad bad am ac bm bc w).mono ?_
 rintro r w' ⟨rfl,rfl⟩
 exact ⟨_,rfl,⟨by simp [go_sem],by simp [go_sem],by simp [go_sem],by simp [go_sem],by simp [go_sem],by simp [go_sem],by simp [go_sem]⟩,(Below.refl _ _).alloc (Nat.le_refl _) _⟩
theorem only_b (b:Bool) (f:FuncId) (cs:Array Value) (w:World):Calls Tryd.prog 139 #[.bool b,.func (.func f) #[] cs] w fun r w'=>∃ j ds,r = .returned (.func (.func j) #[] ds)∧Hid (Value.func (.func j) #[] ds=if b=true then .func (.func f) #[] cs else .func (.func 153) #[] #[])∧w=w':=by
 refine (only_any b f cs w).mono ?_
 rintro r w' ⟨rfl,rfl⟩
 cases b
 ·exact ⟨153,#[],rfl,rfl,rfl⟩
 ·exact ⟨f,cs,rfl,rfl,rfl⟩
theorem inner_b (w:World) (wb:Nat) (sk sn ek en ck ak an bk bn:Int) (ead aad bad yad lad:Option Addr) (em ec am ac bm bc ly yc ll lc:Nat) :
  Calls Tryd.prog 143 #[.pointer (some ⟨wb,0,none⟩),.agg #[.int .i64 sk,.int .i64 sn,.int .i64 ek,.int .i64 en,.slice ead em ec,.int .i64 ck,.int .i64 ak,.int .i64 an,.slice aad am ac,.int .i64 bk,.int .i64 bn,.slice bad bm bc,.slice yad ly yc,.slice lad ll lc]] w fun r w' =>
  ∃ p1 p2,r = .returned (.func (.func 157) #[] #[.pointer (some ⟨p1,0,none⟩),.pointer (some ⟨p2,0,none⟩)])∧(w'.cell? ⟨p1,0,none⟩=some (.pointer (some ⟨wb,0,none⟩)) ∧
   copyIs w' p2 (.int .i64 sk) (.int .i64 sn) (.int .i64 ek) (.int .i64 en) (.slice ead em ec) (.int .i64 ck) (.int .i64 ak) (.int .i64 an) (.slice aad am ac) (.int .i64 bk) (.int .i64 bn) (.slice bad bm bc) (.slice yad ly yc) (.slice lad ll lc)∧w.heap.size≤p1∧w.heap.size≤p2)∧Below w.heap.size w w':=by
 refine (inner_any w wb sk sn ek en ck ak an bk bn ead aad bad yad lad em ec am ac bm bc ly yc ll lc).mono ?_
 rintro r w' ⟨rfl,rfl⟩
 refine ⟨_,_,rfl,⟨by simp [go_sem],?_,Nat.le_refl _,Nat.le_succ _⟩,((Below.refl _ _).alloc (Nat.le_refl _) _).alloc (by simp) _⟩
 have:=heap_alloc_new (w.alloc (.cells #[.pointer (some ⟨wb,0,none⟩)] 190)) (.cells #[.int .i64 sk,.int .i64 sn,.int .i64 ek,.int .i64 en,.slice ead em ec,.int .i64 ck,.int .i64 ak,.int .i64 an,.slice aad am ac,.int .i64 bk,.int .i64 bn,.slice bad bm bc,.slice yad ly yc,.slice lad ll lc] 123)
 simpa [copyIs] using this
def SS (q1 q2:Nat) (x0 x1 x2 x3 x4 x5 x6 x7 x8 x9 x10 x11 x12 x13 y0 y1 y2 y3 y4 y5:Value) (w:World):Prop :=
 copyIs w q1 x0 x1 x2 x3 x4 x5 x6 x7 x8 x9 x10 x11 x12 x13∧w.heap[q2]?=some (.cells #[y0,y1,y2,y3,y4,y5] 203 (0,0))
section
variable {q1 q2:Nat} {x0 x1 x2 x3 x4 x5 x6 x7 x8 x9 x10 x11 x12 x13 y0 y1 y2 y3 y4 y5:Value} {w w':World}
theorem SS.of (h1:w'.heap[q1]?=w.heap[q1]?) (h2:w'.heap[q2]?=w.heap[q2]?) (h:SS q1 q2 x0 x1 x2 x3 x4 x5 x6 x7 x8 x9 x10 x11 x12 x13 y0 y1 y2 y3 y4 y5 w):SS q1 q2 x0 x1 x2 x3 x4 x5 x6 x7 x8 x9 x10 x11 x12 x13 y0 y1 y2 y3 y4 y5 w' :=
 ⟨h1.trans h.1,h2.trans h.2⟩
theorem SS.lt (h:SS q1 q2 x0 x1 x2 x3 x4 x5 x6 x7 x8 x9 x10 x11 x12 x13 y0 y1 y2 y3 y4 y5 w):q1<w.heap.size∧q2<w.heap.size :=
 ⟨(Array.getElem?_eq_some_iff.1 h.1).1,(Array.getElem?_eq_some_iff.1 h.2).1⟩
theorem SS.below (h:SS q1 q2 x0 x1 x2 x3 x4 x5 x6 x7 x8 x9 x10 x11 x12 x13 y0 y1 y2 y3 y4 y5 w) (hb:Below w.heap.size w w'):SS q1 q2 x0 x1 x2 x3 x4 x5 x6 x7 x8 x9 x10 x11 x12 x13 y0 y1 y2 y3 y4 y5 w' :=
 SS.of (hb.block _ h.lt.1) (hb.block _ h.lt.2) h
theorem SS.alloc (h:SS q1 q2 x0 x1 x2 x3 x4 x5 x6 x7 x8 x9 x10 x11 x12 x13 y0 y1 y2 y3 y4 y5 w) (o:Obj):SS q1 q2 x0 x1 x2 x3 x4 x5 x6 x7 x8 x9 x10 x11 x12 x13 y0 y1 y2 y3 y4 y5 (w.alloc o) :=
 h.below ((Below.refl _ _).alloc (Nat.le_refl _) o)
theorem SS.x (h:SS q1 q2 x0 x1 x2 x3 x4 x5 x6 x7 x8 x9 x10 x11 x12 x13 y0 y1 y2 y3 y4 y5 w):w.cell? ⟨q1,0,none⟩=some x0∧w.cell? ⟨q1,1,none⟩=some x1∧w.cell? ⟨q1,2,none⟩=some x2∧w.cell? ⟨q1,3,none⟩=some x3∧w.cell? ⟨q1,4,none⟩=some x4∧w.cell? ⟨q1,5,none⟩=some x5∧w.cell? ⟨q1,6,none⟩=some x6 ∧
  w.cell? ⟨q1,7,none⟩=some x7∧w.cell? ⟨q1,8,none⟩=some x8∧w.cell? ⟨q1,9,none⟩=some x9∧w.cell? ⟨q1,10,none⟩=some x10∧w.cell? ⟨q1,11,none⟩=some x11∧w.cell? ⟨q1,12,none⟩=some x12∧w.cell? ⟨q1,13,none⟩=some x13:=by
 obtain ⟨d0,d1,d2,d3,d4,d5,d6,d7,d8,d9,d10,d11,d12,d13,-⟩:=h.1.cell
 exact ⟨d0,d1,d2,d3,d4,d5,d6,d7,d8,d9,d10,d11,d12,d13⟩
theorem SS.y (h:SS q1 q2 x0 x1 x2 x3 x4 x5 x6 x7 x8 x9 x10 x11 x12 x13 y0 y1 y2 y3 y4 y5 w):w.cell? ⟨q2,0,none⟩=some y0∧w.cell? ⟨q2,1,none⟩=some y1∧w.cell? ⟨q2,2,none⟩=some y2∧w.cell? ⟨q2,3,none⟩=some y3∧w.cell? ⟨q2,4,none⟩=some y4∧w.cell? ⟨q2,5,none⟩=some y5:=by
 have h2:=h.2
 refine ⟨?_,?_,?_,?_,?_,?_⟩ <;> (unfold World.cell?;rw [h2];rfl)
end
set_option maxHeartbeats 1000000 in
theorem stmt_end (w0:World) (N:Nat) (hN:N≤1048576) (hL:ListOk w0 N) (X w12 w17 w22 w28 w41 w52 w55:World) (wb B:Nat) (i:Int) (v:Value) (ar:List (Int × Int)) (q0 s0 q1 s1 p2 p3 q4 s4 q5 s5 p6 p7 cap ty:Nat)
  (sk sn ek en ck ak an bk bn:Int) (ead aad bad yad lad:Option Addr) (em ec am ac bm bc yc lc:Nat) (e ca cb:Ex) (b l:List St) (b0 b1 hv hc b4 b5:Bool) (f2 f3:Value) (hf2:f2=if hv=true then .func (.func 154) #[] #[.pointer (some ⟨p2,0,none⟩)] else .func (.func 153) #[] #[]) (hf3:f3=if hc=true then .func (.func 156) #[] #[.pointer (some ⟨p3,0,none⟩)] else .func (.func 153) #[] #[])
  (hbk:e.nodes+ca.nodes+cb.nodes+St.bulkAll b+St.bulkAll l≤N) (hwb:w0.heap.size≤wb) (hB0:Below w0.heap.size w0 X) (hfm:FormsIn w0)
  (he:e.In w0 (.agg #[.int .i64 ek,.int .i64 en,.slice ead em ec])) (hca:ca.In w0 (.agg #[.int .i64 ak,.int .i64 an,.slice aad am ac])) (hcb:cb.In w0 (.agg #[.int .i64 bk,.int .i64 bn,.slice bad bm bc]))
  (hy:St.Sl w0 b (.slice yad b.length yc)) (hl:St.Sl w0 l (.slice lad l.length lc)) (hwk:Wk X wb B i v ar) (hi1 : -1≤i) (hi2:i+(St.bulkAll b+St.bulkAll l:Nat)≤2097152) (har:ar.length+1+(St.bulkAll b+St.bulkAll l)≤2097152)
  (eX:Below X.heap.size X w55) (e12:Below w12.heap.size w12 w55) (e17:Below w17.heap.size w17 w55) (e22:Below w22.heap.size w22 w55) (e28:Below w28.heap.size w28 w55) (e41:Below w41.heap.size w41 w55) (e52:Below w52.heap.size w52 w55) (hx52:X.heap.size≤w52.heap.size)
  (c0:w12.cell? ⟨q0,0,none⟩=some (.bool b0)∧w12.cell? ⟨s0,0,none⟩=some (.int .i64 3)) (c1:w17.cell? ⟨q1,0,none⟩=some (.bool b1)∧w17.cell? ⟨s1,0,none⟩=some (.int .i64 6))
  (c2:w22.cell? ⟨p2,0,none⟩=some (.int .i64 ek)∧w22.cell? ⟨p2,1,none⟩=some (.int .i64 en)∧w22.cell? ⟨p2,2,none⟩=some (.slice ead em ec))
  (c3:w28.cell? ⟨p3,0,none⟩=some (.int .i64 ck)∧w28.cell? ⟨p3,1,none⟩=some (.int .i64 ak)∧w28.cell? ⟨p3,2,none⟩=some (.int .i64 an)∧w28.cell? ⟨p3,3,none⟩=some (.slice aad am ac) ∧
   w28.cell? ⟨p3,4,none⟩=some (.int .i64 bk)∧w28.cell? ⟨p3,5,none⟩=some (.int .i64 bn)∧w28.cell? ⟨p3,6,none⟩=some (.slice bad bm bc))
  (c4:w41.cell? ⟨q4,0,none⟩=some (.bool b4)∧w41.cell? ⟨s4,0,none⟩=some (.int .i64 2)) (c5:w52.cell? ⟨q5,0,none⟩=some (.bool b5)∧w52.cell? ⟨s5,0,none⟩=some (.int .i64 10))
  (c6:w55.cell? ⟨p6,0,none⟩=some (.pointer (some ⟨wb,0,none⟩)) ∧
   copyIs w55 p7 (.int .i64 sk) (.int .i64 sn) (.int .i64 ek) (.int .i64 en) (.slice ead em ec) (.int .i64 ck) (.int .i64 ak) (.int .i64 an) (.slice aad am ac) (.int .i64 bk) (.int .i64 bn) (.slice bad bm bc) (.slice yad b.length yc) (.slice lad l.length lc)∧w52.heap.size≤p6∧w52.heap.size≤p7) :
  Calls Tryd.prog 136 #[.slice (some ⟨w55.heap.size,0,none⟩) 7 cap] (w55.alloc (.cells #[.func (.func 151) #[] #[.pointer (some ⟨q0,0,none⟩),.pointer (some ⟨s0,0,none⟩)],.func (.func 151) #[] #[.pointer (some ⟨q1,0,none⟩),.pointer (some ⟨s1,0,none⟩)],
    f2,f3,
    .func (.func 151) #[] #[.pointer (some ⟨q4,0,none⟩),.pointer (some ⟨s4,0,none⟩)],.func (.func 151) #[] #[.pointer (some ⟨q5,0,none⟩),.pointer (some ⟨s5,0,none⟩)],.func (.func 157) #[] #[.pointer (some ⟨p6,0,none⟩),.pointer (some ⟨p7,0,none⟩)]] ty))
   fun r w'=>r = .returned (.int .i64 (lookR b0 b1 hv hc b4 b5 (e.node 0).1 (condErr ck ca cb) i (chk2 b l (ar++[(sk,sn)]) i)).1)∧∃ v',Wk w' wb B (lookR b0 b1 hv hc b4 b5 (e.node 0).1 (condErr ck ca cb) i (chk2 b l (ar++[(sk,sn)]) i)).2 v' ar∧WR wb X w' v v'∧WR wb w55 w' v v':=by
 subst hf2 hf3
 generalize ho:(Obj.cells #[.func (.func 151) #[] #[.pointer (some ⟨q0,0,none⟩),.pointer (some ⟨s0,0,none⟩)],.func (.func 151) #[] #[.pointer (some ⟨q1,0,none⟩),.pointer (some ⟨s1,0,none⟩)],
    if hv=true then .func (.func 154) #[] #[.pointer (some ⟨p2,0,none⟩)] else .func (.func 153) #[] #[],if hc=true then .func (.func 156) #[] #[.pointer (some ⟨p3,0,none⟩)] else .func (.func 153) #[] #[],
    .func (.func 151) #[] #[.pointer (some ⟨q4,0,none⟩),.pointer (some ⟨s4,0,none⟩)],.func (.func 151) #[] #[.pointer (some ⟨q5,0,none⟩),.pointer (some ⟨s5,0,none⟩)],.func (.func 157) #[] #[.pointer (some ⟨p6,0,none⟩),.pointer (some ⟨p7,0,none⟩)]] ty)=o
 have en55:Below w55.heap.size w55 (w55.alloc o):=(Below.refl _ _).alloc (Nat.le_refl _) o
 have new:∀ j u,(match o with | .cells cs _ _=>cs[j]? | _=>none)=some u→(w55.alloc o).cell? ⟨w55.heap.size,j,none⟩=some u:=by
  intro j u hu
  subst ho
  unfold World.cell?
  rw [heap_alloc_new]
  simpa using hu
 have lowX:∀ w',Below (w55.alloc o).heap.size (w55.alloc o) w'→Below X.heap.size X w':=fun w' h=>below_seq (below_seq eX en55) h
 have low0:∀ w',Below (w55.alloc o).heap.size (w55.alloc o) w'→Below w0.heap.size w0 w':=fun w' h=>hB0.trans ((lowX w' h).mono hB0.size)
 have far:∀ p,w52.heap.size≤p→p≠wb∧some p≠v.ownBlock:=fun p hp=>by
  have h1:=hwk.lt
  have h2:=hwk.le
  refine ⟨by omega,fun e=>?_⟩
  have:=(hwk.own_lt p e.symm).2
  omega
 refine (stmt_looks (w55.alloc o) w55.heap.size cap q0 s0 q1 s1 q4 s4 q5 s5 #[.pointer (some ⟨p2,0,none⟩)] #[.pointer (some ⟨p3,0,none⟩)] #[.pointer (some ⟨p6,0,none⟩),.pointer (some ⟨p7,0,none⟩)] b0 b1 hv hc b4 b5 (e.node 0).1 (condErr ck ca cb) i (chk2 b l (ar++[(sk,sn)]) i) wb B v ar
  (hwk.below (below_seq eX en55)) (new 0 _ (by subst ho;rfl)) (new 1 _ (by subst ho;rfl)) (new 2 _ (by subst ho;rfl)) (new 3 _ (by subst ho;rfl)) (new 4 _ (by subst ho;rfl)) (new 5 _ (by subst ho;rfl)) (new 6 _ (by subst ho;rfl))
  ⟨below_cell (below_seq e12 en55) c0.1,below_cell (below_seq e12 en55) c0.2⟩ ⟨below_cell (below_seq e17 en55) c1.1,below_cell (below_seq e17 en55) c1.2⟩ ⟨below_cell (below_seq e41 en55) c4.1,below_cell (below_seq e41 en55) c4.2⟩ ⟨below_cell (below_seq e52 en55) c5.1,below_cell (below_seq e52 en55) c5.2⟩ ?_ ?_ ?_).mono ?_
 ·intro w' h
  have k:=below_seq (below_seq e22 en55) h
  exact expr1_any e ek en ead em ec p2 w' (by omega) (fun m h1 h2=>⟨(low0 w' h).cell (World.block_lt_of_cell? _ _ (hfm m h1 h2).1) |>.trans (hfm m h1 h2).1,(low0 w' h).cell (World.block_lt_of_cell? _ _ (hfm m h1 h2).2) |>.trans (hfm m h1 h2).2⟩) (he.below (low0 w' h)) (below_cell k c2.1) (below_cell k c2.2.1) (below_cell k c2.2.2)
 ·intro w' h
  have k:=below_seq (below_seq e28 en55) h
  exact cond1_any ck ak an bk bn aad bad am ac bm bc p3 ca cb w' ⟨by omega,by omega⟩ (hfm.below (low0 w' h)) (hca.below (low0 w' h)) (hcb.below (low0 w' h)) (below_cell k c3.1) (below_cell k c3.2.1) (below_cell k c3.2.2.1) (below_cell k c3.2.2.2.1) (below_cell k c3.2.2.2.2.1) (below_cell k c3.2.2.2.2.2.1) (below_cell k c3.2.2.2.2.2.2)
 ·intro w' h
  have k:=below_seq en55 h
  exact inner1_of_list w0 N hL w' wb B p6 p7 i v b l ar sk sn ek en ck ak an bk bn ead aad bad yad lad em ec am ac bm bc yc lc (by omega) hwb (low0 w' h) hy hl (hwk.below (lowX w' h)) hi1 hi2 har
   ((k.block _ c6.2.1.lt).trans c6.2.1) (below_cell k c6.1) (far _ c6.2.2.1) (far _ c6.2.2.2)
 ·rintro r w' ⟨rfl,v',hk',hr'⟩
  exact ⟨rfl,v',hk',(WR.of_below (below_seq eX en55)).trans hr',(WR.of_below en55).trans hr'⟩
theorem ans_cells {w:World} {g:Nat} {x y:Value} (h:w.heap[g]?=some (.cells #[x,y] 30 (0,0))):w.cell? ⟨g,0,none⟩=some x∧w.cell? ⟨g,1,none⟩=some y∧(∀ j,w.frozen? ⟨g,j,none⟩=false)∧g<w.heap.size:=by
 refine ⟨?_,?_,?_,(Array.getElem?_eq_some_iff.1 h).1⟩
 ·unfold World.cell?;rw [h];rfl
 ·unfold World.cell?;rw [h];rfl
 ·intro j;unfold World.frozen?;rw [h];simp
theorem three_below {w w1:World} {o1 o2 o3:Obj} (h:Below w.heap.size w w1):Below w.heap.size w (((w1.alloc o1).alloc o2).alloc o3):=by
 have hs:=h.size
 exact ((h.alloc hs o1).alloc (by simp;omega) o2).alloc (by simp;omega) o3
theorem three_old {w1:World} {o1 o2 o3:Obj} {g:Nat} {o:Option Obj} (hg:g<w1.heap.size) (h:w1.heap[g]?=o):(((w1.alloc o1).alloc o2).alloc o3).heap[g]?=o:=by
 rw [Below.heap_alloc _ _ _ (by simp;omega),Below.heap_alloc _ _ _ (by simp;omega),Below.heap_alloc _ _ _ hg,h]
theorem three_wk {w1:World} {o2 o3:Obj}:Wk (((w1.alloc (.cells #[.int .i64 (-1),.slice none 0 0] 159)).alloc o2).alloc o3) w1.heap.size (w1.heap.size+1) (-1) (.slice none 0 0) []:=by
 refine ⟨?_,⟨[],World.ownsRow_nil _ _ _ _,rfl⟩,by omega,by simp⟩
 rw [Below.heap_alloc _ _ _ (by simp;omega),Below.heap_alloc _ _ _ (by simp)]
 exact heap_alloc_new w1 _
set_option maxRecDepth 20000 in
set_option maxHeartbeats 2000000 in
theorem Check_of_list (a:List St) (w:World) (v:Value) (p:Nat→Prop) (bl:List Nat) (hsl:St.SlQ p w a v bl) (hnd:bl.Nodup) (hN:St.bulkAll a≤1048576) (hL:ListOk w 1048576) :
  Calls Tryd.prog 59 #[v] w fun r w'=>r = .returned (if 200<St.countAll a then .agg #[.int .i64 2,.int .i64 0] else .agg #[.int .i64 (firstErr (St.flatAll a 0 []) 0).1,.int .i64 (firstErr (St.flatAll a 0 []) 0).2])∧Below w.heap.size w w':=by
 obtain ⟨ts,hts,hct,hnd'⟩:=hsl.seen hnd
 have hp:=hsl.plain
 obtain ⟨ad,c,rfl,-⟩:=id hp
 have hcl:=St.countAll_le a
 have hB1:Below w.heap.size w (w.alloc (.cells #[.int .i64 0,.int .i64 0] 30)):=(Below.refl _ _).alloc (Nat.le_refl _) _
 have HH:Hid (AT.Sl w ts (.slice ad a.length c)∧(AT.addrsAll ts).Nodup∧St.Sl w a (.slice ad a.length c)∧ListOk w 1048576∧Below w.heap.size w (w.alloc (.cells #[.int .i64 0,.int .i64 0] 30))∧AT.countAll ts=St.countAll a):=⟨hts,hnd',hp,hL,hB1,hct⟩
 clear hts hnd' hp hL hB1 hsl hnd hct
 by_cases h200:200<St.countAll a
 ·have hd:decide (200<(St.countAll a:Int))=true:=decide_eq_true (by omega)
  rw [if_pos h200]
  go_enter Tryd.func59,Tryd.ntmps59
  go_wp2_with (first
   | (go_at_call 93;refine (Count_any ts _ _ (HH.out.1.below HH.out.2.2.2.2.1) HH.out.2.1 (by have:=HH.out.2.2.2.2.2;omega)).mono ?_;rintro r w1 ⟨rfl,hb1⟩;rw [HH.out.2.2.2.2.2];obtain ⟨k0,k1,kf,kl⟩:=ans_cells ((hb1.block w.heap.size (by simp)).trans (heap_alloc_new w _));have HB:Hid _:=hb1;clear hb1))
  exact bodyPost_ret (v:=.agg #[.int .i64 2,.int .i64 0]) (by simp [results,Tryd.results59,go_sem,k0,k1]) rfl ⟨rfl,((below_seq HH.out.2.2.2.2.1 HB.out).setCell (by simp) _).setCell (by simp) _⟩
 ·have hd:decide (200<(St.countAll a:Int))=false:=decide_eq_false (by omega)
  rw [if_neg h200,chk_body]
  have hen:=ent22
  by_cases hz:(St.chkAll a [] (-1)).1=0
  ·rw [if_neg (by simpa using hz)]
   go_enter Tryd.func59,Tryd.ntmps59
   go_wp2_with (first
    | (go_at_call 93;refine (Count_any ts _ _ (HH.out.1.below HH.out.2.2.2.2.1) HH.out.2.1 (by have:=HH.out.2.2.2.2.2;omega)).mono ?_;rintro r w1 ⟨rfl,hb1⟩;rw [HH.out.2.2.2.2.2];have HK:Hid (w1.heap[w.heap.size]?=some (.cells #[.int .i64 0,.int .i64 0] 30 (0,0))):=(hb1.block w.heap.size (by simp)).trans (heap_alloc_new w _);obtain ⟨k0,k1,kf,kl⟩:=ans_cells HK.out;have HB:Hid _:=hb1;clear hb1)
    | (go_at_call 94;refine (list_any _ _ _ _ _).mono ?_;rintro r w2 ⟨rfl,rfl⟩))
   have hs1:w.heap.size<w1.heap.size:=kl
   have hwb:Below w.heap.size w (((w1.alloc (.cells #[.int .i64 (-1),.slice none 0 0] 159)).alloc (.cells #[.pointer (some ⟨w1.heap.size,0,none⟩)] 190)).alloc (.cells #[.slice ad a.length c] 63)):=three_below (below_seq HH.out.2.2.2.2.1 HB.out)
   refine (HH.out.2.2.2.1 a _ w1.heap.size (w1.heap.size+1) (w1.heap.size+1+1) (w1.heap.size+1) (-1) (.slice none 0 0) (.slice ad a.length c) [] hN (by omega) hwb HH.out.2.2.1 three_wk (by omega) (by omega) (by simp;omega) (by simp [go_sem]) (by simp [go_sem]) (by omega) (by simp [Value.ownBlock])).mono ?_
   rintro r w3 ⟨rfl,v3,hk3,hr3⟩
   have hk0:(((w1.alloc (.cells #[.int .i64 (-1),.slice none 0 0] 159)).alloc (.cells #[.pointer (some ⟨w1.heap.size,0,none⟩)] 190)).alloc (.cells #[.slice ad a.length c] 63)).heap[w.heap.size]?=some (.cells #[.int .i64 0,.int .i64 0] 30 (0,0)):=three_old hs1 HK.out
   obtain ⟨m0,m1,mf,ml⟩:=ans_cells ((hr3.block w.heap.size (by simp;omega) (by omega) (by simp [Value.ownBlock])).trans hk0)
   have mb:w3.cell? ⟨w1.heap.size,0,none⟩=some (.int .i64 (St.chkAll a [] (-1)).2):=by unfold World.cell?;rw [hk3.blk];rfl
   have hlow:=hr3.low three_wk (by omega) hwb
   have HL:Hid (Below w.heap.size w w3):=hlow
   clear hk3 hr3 hk0 hwb hlow k0 k1 kf
   go_wp2_with fail
   exact bodyPost_ret (v:=.agg #[.int .i64 0,.int .i64 0]) (by simp [results,Tryd.results59,go_sem,m0,m1]) rfl ⟨rfl,(HL.out.setCell (by simp) _).setCell (by simp) _⟩
  ·have hz':((St.chkAll a [] (-1)).1 != 0)=true:=by simpa using hz
   rw [if_pos hz]
   go_enter Tryd.func59,Tryd.ntmps59
   go_wp2_with (first
    | (go_at_call 93;refine (Count_any ts _ _ (HH.out.1.below HH.out.2.2.2.2.1) HH.out.2.1 (by have:=HH.out.2.2.2.2.2;omega)).mono ?_;rintro r w1 ⟨rfl,hb1⟩;rw [HH.out.2.2.2.2.2];have HK:Hid (w1.heap[w.heap.size]?=some (.cells #[.int .i64 0,.int .i64 0] 30 (0,0))):=(hb1.block w.heap.size (by simp)).trans (heap_alloc_new w _);obtain ⟨k0,k1,kf,kl⟩:=ans_cells HK.out;have HB:Hid _:=hb1;clear hb1)
    | (go_at_call 94;refine (list_any _ _ _ _ _).mono ?_;rintro r w2 ⟨rfl,rfl⟩))
   have hs1:w.heap.size<w1.heap.size:=kl
   have hwb:Below w.heap.size w (((w1.alloc (.cells #[.int .i64 (-1),.slice none 0 0] 159)).alloc (.cells #[.pointer (some ⟨w1.heap.size,0,none⟩)] 190)).alloc (.cells #[.slice ad a.length c] 63)):=three_below (below_seq HH.out.2.2.2.2.1 HB.out)
   refine (HH.out.2.2.2.1 a _ w1.heap.size (w1.heap.size+1) (w1.heap.size+1+1) (w1.heap.size+1) (-1) (.slice none 0 0) (.slice ad a.length c) [] hN (by omega) hwb HH.out.2.2.1 three_wk (by omega) (by omega) (by simp;omega) (by simp [go_sem]) (by simp [go_sem]) (by omega) (by simp [Value.ownBlock])).mono ?_
   rintro r w3 ⟨rfl,v3,hk3,hr3⟩
   have hk0:(((w1.alloc (.cells #[.int .i64 (-1),.slice none 0 0] 159)).alloc (.cells #[.pointer (some ⟨w1.heap.size,0,none⟩)] 190)).alloc (.cells #[.slice ad a.length c] 63)).heap[w.heap.size]?=some (.cells #[.int .i64 0,.int .i64 0] 30 (0,0)):=three_old hs1 HK.out
   obtain ⟨m0,m1,mf,ml⟩:=ans_cells ((hr3.block w.heap.size (by simp;omega) (by omega) (by simp [Value.ownBlock])).trans hk0)
   have mb:w3.cell? ⟨w1.heap.size,0,none⟩=some (.int .i64 (St.chkAll a [] (-1)).2):=by unfold World.cell?;rw [hk3.blk];rfl
   have hlow:=hr3.low three_wk (by omega) hwb
   have HL:Hid (Below w.heap.size w w3):=hlow
   clear hk3 hr3 hk0 hwb hlow k0 k1 kf
   go_wp2_with fail
   exact bodyPost_ret (v:=.agg #[.int .i64 (St.chkAll a [] (-1)).1,.int .i64 (St.chkAll a [] (-1)).2]) (by simp [results,Tryd.results59,go_sem,m0,m1]) rfl ⟨rfl,(HL.out.setCell (by simp) _).setCell (by simp) _⟩
end Go.Proofs.YtnkgbkkakokciacDoor.B
