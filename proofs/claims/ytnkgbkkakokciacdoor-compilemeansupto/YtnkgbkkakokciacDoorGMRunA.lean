import Derived.Test.YtnkgbkkakokciacDoorGMNewOk
namespace Go.Proofs.YtnkgbkkakokciacDoor.B
open Go.ChangeShapes Go.WideShapes Go.ChangeAt Go.RowKit
theorem insR {w:World} {B n:Nat} {v:Value} {l:List Io} (h:w.ownsRow B 35 3 v n (insVs l)) (hn:n=l.length):InSl w l v:=by
 subst hn
 obtain ⟨hl,⟨rfl,h2⟩ | ⟨g,cap,cur,rfl,hB,hg,hc,hm,hs,ht⟩⟩:=h
 ·have:l=[]:=List.length_eq_zero_iff.1 h2
  subst this
  exact ⟨none,0,rfl,.inl rfl⟩
 ·refine ⟨_,cap,rfl,.inr ⟨g,0,rfl,fun j hj=>?_⟩⟩
  have key:∀ i u,(insVs l)[i]?=some u→w.cell? ⟨g,0+i,none⟩=some u:=fun i u hi=>by
   have hi2:i<(insVs l).length:=(List.getElem?_eq_some_iff.1 hi).1
   rw [insVs_len] at hi2
   rw [← ht,List.getElem?_take_of_lt (by omega)] at hi
   unfold World.cell?
   rw [hg]
   simpa using hi
  have three:∀ (l:List Io) (j:Nat),j<l.length→(insVs l)[j*3]?=some (.int .i64 (l.getD j in0).op)∧(insVs l)[j*3+1]?=some (.int .i64 (l.getD j in0).a)∧(insVs l)[j*3+2]?=some (.int .i64 (l.getD j in0).b):=by
   intro l
   induction l with
   | nil=>intro j h;simp at h
   | cons x t ih =>
    intro j h
    cases j with
    | zero=>exact ⟨rfl,rfl,rfl⟩
    | succ j =>
     have:=ih j (by simpa using h)
     rw [show (j+1)*3=j*3+1+1+1 by omega]
     simpa [insVs] using this
  obtain ⟨t1,t2,t3⟩:=three l j hj
  exact ⟨key _ _ t1,key _ _ t2,key _ _ t3⟩
def JB (m:Int) (l:List Io):Prop:=∀ x ∈ l,((x.op=11∨x.op=12)→0≤x.a∧x.a≤m)∧(x.op=14→0≤x.b∧x.b≤m)
theorem getD_mem {l:List Io} {j:Nat} (h:j<l.length):l.getD j in0 ∈ l:=by
 rw [List.getD_eq_getElem?_getD,List.getElem?_eq_getElem h]
 exact List.getElem_mem _
end Go.Proofs.YtnkgbkkakokciacDoor.B
namespace Go.Proofs.YtnkgbkkakokciacDoor
open Go.ChangeShapes Go.WideShapes Go.ChangeAt Go.RowKit
theorem Run_ends {w:World} {g:Nat} {a0 a1 a2 c k:Value} {a:Act} (h6:w.heap[g]?=some (.cells #[a0,a1,a2] 27 (0,0))) (h7:w.heap[g+1]?=some (.cells #[c,k] 30 (0,0))) (h2:a.tmps[6]?.getD undef = .pointer (some ⟨g,0,none⟩)) (h3:a.tmps[7]?.getD undef = .pointer (some ⟨g+1,0,none⟩)) :
  (results Tryd.f13 a.tmps).run Tryd.prog w = .ok (.tuple #[.agg #[a0,a1,a2],.agg #[c,k]]) w:=by
 obtain ⟨c1,f1,l1⟩:=cells_of (l:=[_,_,_]) h6
 obtain ⟨d1,e1,m1⟩:=cells_of (l:=[_,_]) h7
 have c10:=c1 0 _ rfl
 have c11:=c1 1 _ rfl
 have c12:=c1 2 _ rfl
 have d10:=d1 0 _ rfl
 have d11:=d1 1 _ rfl
 simp [results,Tryd.results13,go_sem,h2,h3,c10,c11,c12,d10,d11]
structure RB (w W:World):Prop where
 bel:Below w.heap.size w W
 r6:W.heap[w.heap.size]?=some (.cells #[.slice none 0 0,.slice none 0 0,.int .i64 0] 27 (0,0))
 r7:W.heap[w.heap.size+1]?=some (.cells #[.int .i64 0,.int .i64 0] 30 (0,0))
theorem RB.start (w:World):RB w ((w.alloc (.cells #[.slice none 0 0,.slice none 0 0,.int .i64 0] 27)).alloc (.cells #[.int .i64 0,.int .i64 0] 30)):=by
 refine ⟨(below_new _ _).alloc (by simp) _,?_,?_⟩
 ·rw [Below.heap_alloc _ _ _ (by simp)];exact heap_alloc_new _ _
 ·have:=heap_alloc_new (w.alloc (.cells #[.slice none 0 0,.slice none 0 0,.int .i64 0] 27)) (.cells #[.int .i64 0,.int .i64 0] 30)
  simpa using this
theorem RB.grow {w W W':World} (h:RB w W) (hb:Below W.heap.size W W'):RB w W' :=
 ⟨below_seq h.bel hb,(hb.block _ (Array.getElem?_eq_some_iff.1 h.r6).1).trans h.r6,(hb.block _ (Array.getElem?_eq_some_iff.1 h.r7).1).trans h.r7⟩
theorem RB.move {w W W':World} {mb B:Nat} {l:List In} {iv ov:Value} {ins:List Int} {sp:Int} {s:MS} {sv pv sv' pv':Value} (h:RB w W) (hm:MM W mb B l iv ov ins sp s sv pv) (hr:MR mb W W' sv pv sv' pv') (hlt:w.heap.size+1<mb):RB w W':=by
 have hn:=hm.nmb
 have hl:=hm.lt
 have nb:∀ k,k<mb→W'.heap[k]?=W.heap[k]?:=fun k hk=>hr.block k (by omega) (by omega) (fun e=>by have:=(hm.stk.lt k e.symm).1;omega) (fun e=>by have:=(hm.pts.lt k e.symm).1;omega)
 exact ⟨h.bel.trans ⟨hr.os,hr.tape,hr.output,hr.size,fun k hk=>nb k (by omega)⟩,(nb _ (by omega)).trans h.r6,(nb _ (by omega)).trans h.r7⟩
def failV (c k:Int):Value:=.tuple #[.agg #[.slice none 0 0,.slice none 0 0,.int .i64 0],.agg #[.int .i64 c,.int .i64 k]]
theorem RB.tell {w W:World} (h:RB w W) (a0 a1 a2 c k:Value) :
  let W':=((((W.setCell ⟨w.heap.size,0,none⟩ a0).setCell ⟨w.heap.size,1,none⟩ a1).setCell ⟨w.heap.size,2,none⟩ a2).setCell ⟨w.heap.size+1,0,none⟩ c).setCell ⟨w.heap.size+1,1,none⟩ k
  W'.heap[w.heap.size]?=some (.cells #[a0,a1,a2] 27 (0,0))∧W'.heap[w.heap.size+1]?=some (.cells #[c,k] 30 (0,0))∧Below w.heap.size w W':=by
 refine ⟨?_,?_,((((h.bel.setCell (Nat.le_refl _) _).setCell (Nat.le_refl _) _).setCell (Nat.le_refl _) _).setCell (by show w.heap.size≤w.heap.size+1;omega) _).setCell (by show w.heap.size≤w.heap.size+1;omega) _⟩
 ·rw [Below.heap_setCell _ _ _ _ (by show w.heap.size≠w.heap.size+1;omega),Below.heap_setCell _ _ _ _ (by show w.heap.size≠w.heap.size+1;omega),setCell_at (setCell_at (setCell_at h.r6))]
  rfl
 ·have h1:(((W.setCell ⟨w.heap.size,0,none⟩ a0).setCell ⟨w.heap.size,1,none⟩ a1).setCell ⟨w.heap.size,2,none⟩ a2).heap[w.heap.size+1]?=some (.cells #[.int .i64 0,.int .i64 0] 30 (0,0)):=by
   rw [Below.heap_setCell _ _ _ _ (by show w.heap.size+1≠w.heap.size;omega),Below.heap_setCell _ _ _ _ (by show w.heap.size+1≠w.heap.size;omega),Below.heap_setCell _ _ _ _ (by show w.heap.size+1≠w.heap.size;omega)]
   exact h.r7
  rw [setCell_at (setCell_at h1)]
  rfl
theorem RB.told {w W:World} (h:RB w W) (a0 a1 a2 c k:Value) (o:Obj) :
  let W':=(((((W.setCell ⟨w.heap.size,0,none⟩ a0).setCell ⟨w.heap.size,1,none⟩ a1).setCell ⟨w.heap.size,2,none⟩ a2).setCell ⟨w.heap.size+1,0,none⟩ c).setCell ⟨w.heap.size+1,1,none⟩ k).alloc o
  W'.heap[w.heap.size]?=some (.cells #[a0,a1,a2] 27 (0,0))∧W'.heap[w.heap.size+1]?=some (.cells #[c,k] 30 (0,0))∧Below w.heap.size w W':=by
 obtain ⟨t1,t2,t3⟩:=h.tell a0 a1 a2 c k
 exact ⟨(Below.heap_alloc _ _ _ (Array.getElem?_eq_some_iff.1 t1).1).trans t1,(Below.heap_alloc _ _ _ (Array.getElem?_eq_some_iff.1 t2).1).trans t2,t3.alloc t3.size _⟩
set_option maxRecDepth 20000 in
set_option maxHeartbeats 4000000 in
theorem Run_bad (w:World) (l:List In) (iad:Option Addr) (ic:Nat) (vv iv2:Value) (hkk:KindsIn w) (h:InSl w l (.slice iad l.length ic)) (c k:Int) (hc:checkI l=(c,k)) (h0:c≠0) :
  Calls Tryd.prog 13 #[.slice iad l.length ic,vv,iv2] w fun r w'=>r = .returned (failV c k)∧Below w.heap.size w w':=by
 have hcb:(c != 0)=true:=by simpa using h0
 have HK:Hid (KindsIn w∧InSl w l (.slice iad l.length ic)∧checkI l=(c,k)):=⟨hkk,h,hc⟩
 clear hkk h hc
 go_enter Tryd.func13,Tryd.ntmps13
 go_wp2_with (go_at_call 19;refine (New_bad _ l _ _ vv iv2 (HK.out.1.below (RB.start w).bel) (HK.out.2.1.below (RB.start w).bel) c k HK.out.2.2 h0).mono ?_;rintro r w9 ⟨rfl,hb9⟩;have H9:Hid (RB w w9):=(RB.start w).grow hb9;obtain ⟨rs9,rf9,rl9⟩:=cells_of (l:=[_,_]) H9.out.r7;obtain ⟨rt9,rg9,rm9⟩:=cells_of (l:=[_,_,_]) H9.out.r6;have r90:=rs9 0 _ rfl;have r91:=rs9 1 _ rfl;have r60:=rt9 0 _ rfl;have r61:=rt9 1 _ rfl;have r62:=rt9 2 _ rfl;clear hb9 rs9 rt9)
 go_region
 all_goals go_wp2_with fail
 all_goals
  obtain ⟨t1,t2,t3⟩:=H9.out.told (.slice none 0 0) (.slice none 0 0) (.int .i64 0) (.int .i64 c) (.int .i64 k) (.cells #[.int .i64 c,.int .i64 k] 30)
  exact bodyPost_ret (v:=failV c k) (Run_ends t1 t2 rfl rfl) rfl ⟨rfl,t3.drew⟩
set_option maxRecDepth 20000 in
set_option maxHeartbeats 4000000 in
theorem Run_range (w:World) (l:List In) (iad:Option Addr) (ic:Nat) (vad nad:Option Addr) (n m vc nc:Nat) (hkk:KindsIn w) (h:InSl w l (.slice iad l.length ic)) (k:Int) (hc:checkI l=(0,k)) (hnm:n≠8∨m≠4) :
  Calls Tryd.prog 13 #[.slice iad l.length ic,.slice vad n vc,.slice nad m nc] w fun r w'=>r = .returned (failV 3 0)∧Below w.heap.size w w':=by
 have HK:Hid (KindsIn w∧InSl w l (.slice iad l.length ic)∧checkI l=(0,k)):=⟨hkk,h,hc⟩
 clear hkk h hc
 go_enter Tryd.func13,Tryd.ntmps13
 go_wp2_with (go_at_call 19;refine (New_range _ l _ _ vad nad n m vc nc (HK.out.1.below (RB.start w).bel) (HK.out.2.1.below (RB.start w).bel) k HK.out.2.2 hnm).mono ?_;rintro r w9 ⟨rfl,hb9⟩;have H9:Hid (RB w w9):=(RB.start w).grow hb9;obtain ⟨rs9,rf9,rl9⟩:=cells_of (l:=[_,_]) H9.out.r7;obtain ⟨rt9,rg9,rm9⟩:=cells_of (l:=[_,_,_]) H9.out.r6;have r90:=rs9 0 _ rfl;have r91:=rs9 1 _ rfl;have r60:=rt9 0 _ rfl;have r61:=rt9 1 _ rfl;have r62:=rt9 2 _ rfl;clear hb9 rs9 rt9)
 go_region
 all_goals go_wp2_with fail
 all_goals
  obtain ⟨t1,t2,t3⟩:=H9.out.told (.slice none 0 0) (.slice none 0 0) (.int .i64 0) (.int .i64 3) (.int .i64 0) (.cells #[.int .i64 3,.int .i64 0] 30)
  exact bodyPost_ret (v:=failV 3 0) (Run_ends t1 t2 rfl rfl) rfl ⟨rfl,t3.drew⟩
end Go.Proofs.YtnkgbkkakokciacDoor
