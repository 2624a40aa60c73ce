import Derived.Test.YtnkgbkkakokciacDoorGBStmtAll
namespace Go.Proofs.YtnkgbkkakokciacDoor.B
open Go.ChangeShapes Go.WideShapes Go.ChangeAt Go.RowKit
theorem cells_of {w:World} {g:Nat} {l:List Value} {T:TypeId} (h:w.heap[g]?=some (.cells l.toArray T (0,0))):(∀ j u,l[j]?=some u→w.cell? ⟨g,j,none⟩=some u)∧(∀ j,w.frozen? ⟨g,j,none⟩=false)∧g<w.heap.size:=by
 refine ⟨fun j u hu=>?_,fun j=>?_,(Array.getElem?_eq_some_iff.1 h).1⟩
 ·unfold World.cell?;rw [h];simpa using hu
 ·unfold World.frozen?;rw [h];simp
def Kept2 (w:World) (g:Nat) (x y z c k:Value):Prop:=w.heap[g]?=some (.cells #[x,y,z] 27 (0,0))∧w.heap[g+1]?=some (.cells #[c,k] 30 (0,0))
theorem Kept2.put {w:World} {g:Nat} {x y z c k:Value} (h:Kept2 w g x y z c k) (x' y' z' c' k':Value):Kept2 (((((w.setCell ⟨g,0,none⟩ x').setCell ⟨g,1,none⟩ y').setCell ⟨g,2,none⟩ z').setCell ⟨g+1,0,none⟩ c').setCell ⟨g+1,1,none⟩ k') g x' y' z' c' k':=by
 obtain ⟨h1,h2⟩:=h
 constructor
 ·rw [heap_setCell_other _ _ _ _ (by simp),heap_setCell_other _ _ _ _ (by simp)]
  exact heap_setCell_same _ g 2 _ _ _ (heap_setCell_same _ g 1 _ _ _ (heap_setCell_same _ g 0 _ _ _ h1))
 ·refine heap_setCell_same _ (g+1) 1 _ _ _ (heap_setCell_same _ (g+1) 0 #[c,k] _ _ ?_)
  rw [heap_setCell_other _ _ _ _ (by simp),heap_setCell_other _ _ _ _ (by simp),heap_setCell_other _ _ _ _ (by simp)]
  exact h2
theorem Kept2.alloc {w:World} {g:Nat} {x y z c k:Value} (h:Kept2 w g x y z c k) (o:Obj):Kept2 (w.alloc o) g x y z c k:=by
 have h1:=(Array.getElem?_eq_some_iff.1 h.1).1
 have h2:=(Array.getElem?_eq_some_iff.1 h.2).1
 exact ⟨(Below.heap_alloc _ _ _ h1).trans h.1,(Below.heap_alloc _ _ _ h2).trans h.2⟩
theorem Kept2.drew {w:World} {g:Nat} {x y z c k:Value} (h:Kept2 w g x y z c k):Kept2 w.drew g x y z c k:=h
theorem Kept2.below {w w':World} {g:Nat} {x y z c k:Value} (h:Kept2 w g x y z c k) (hb:Below w.heap.size w w'):Kept2 w' g x y z c k:=by
 have h1:=(Array.getElem?_eq_some_iff.1 h.1).1
 have h2:=(Array.getElem?_eq_some_iff.1 h.2).1
 exact ⟨(hb.block _ h1).trans h.1,(hb.block _ h2).trans h.2⟩
theorem Kept2.made (w:World) (x y z c k:Value):Kept2 ((w.alloc (.cells #[x,y,z] 27)).alloc (.cells #[c,k] 30)) w.heap.size x y z c k:=by
 constructor
 ·rw [Below.heap_alloc _ _ _ (by simp)];exact heap_alloc_new w _
 ·have:=heap_alloc_new (w.alloc (.cells #[x,y,z] 27)) (.cells #[c,k] 30)
  simpa using this
set_option maxRecDepth 20000 in
theorem Run_ends {w:World} {g:Nat} {x y z c k:Value} {a:Act} (h:Kept2 w g x y z c k) (h6:a.tmps[6]?.getD undef = .pointer (some ⟨g,0,none⟩)) (h7:a.tmps[7]?.getD undef = .pointer (some ⟨g+1,0,none⟩)) :
  (results Tryd.f39 a.tmps).run Tryd.prog w = .ok (.tuple #[.agg #[x,y,z],.agg #[c,k]]) w:=by
 obtain ⟨c1,f1,l1⟩:=cells_of (l:=[_,_,_]) h.1
 obtain ⟨c2,f2,l2⟩:=cells_of (l:=[_,_]) h.2
 have c10:=c1 0 _ rfl;have c11:=c1 1 _ rfl;have c12:=c1 2 _ rfl;have c20:=c2 0 _ rfl;have c21:=c2 1 _ rfl
 simp [results,Tryd.results39,go_sem,h6,h7,c10,c11,c12,c20,c21]
set_option maxRecDepth 20000 in
set_option maxHeartbeats 4000000 in
theorem Run_bad (w:World) (v vv iv:Value) (c k:Int) (hc:c≠0) (hC:∀ W,Below w.heap.size w W→Calls Tryd.prog 59 #[v] W fun r w'=>r = .returned (.agg #[.int .i64 c,.int .i64 k])∧Below W.heap.size W w') :
  Calls Tryd.prog 39 #[v,vv,iv] w fun r w'=>r = .returned (.tuple #[.agg #[.slice none 0 0,.slice none 0 0,.int .i64 0],.agg #[.int .i64 c,.int .i64 k]])∧Below w.heap.size w w':=by
 have HC:Hid (∀ W,Below w.heap.size w W→Calls Tryd.prog 59 #[v] W fun r w'=>r = .returned (.agg #[.int .i64 c,.int .i64 k])∧Below W.heap.size W w'):=hC
 clear hC
 go_enter Tryd.func39,Tryd.ntmps39
 go_wp2_with (go_at_call 59;refine (HC.out _ (((Below.refl _ w).alloc (Nat.le_refl _) _).alloc (by simp) _)).mono ?_;rintro r w3 ⟨rfl,hb3⟩;have H3:Hid (Below _ _ w3):=hb3;clear hb3)
 have hb1:w3.heap[w.heap.size]?=some (.cells #[.slice none 0 0,.slice none 0 0,.int .i64 0] 27 (0,0)):=(H3.out.block _ (by simp;omega)).trans (by rw [Below.heap_alloc _ _ _ (by simp)];exact heap_alloc_new w _)
 have hb2:w3.heap[w.heap.size+1]?=some (.cells #[.int .i64 0,.int .i64 0] 30 (0,0)):=(H3.out.block _ (by simp)).trans (by have:=heap_alloc_new (w.alloc (.cells #[.slice none 0 0,.slice none 0 0,.int .i64 0] 27)) (.cells #[.int .i64 0,.int .i64 0] 30);simpa using this)
 obtain ⟨c1,f1,l1⟩:=cells_of (l:=[_,_,_]) hb1
 obtain ⟨c2,f2,l2⟩:=cells_of (l:=[_,_]) hb2
 have c10:=c1 0 _ rfl;have c11:=c1 1 _ rfl;have c12:=c1 2 _ rfl;have c20:=c2 0 _ rfl;have c21:=c2 1 _ rfl
 have HB:Hid (w3.heap[w.heap.size]?=_∧w3.heap[w.heap.size+1]?=_):=⟨hb1,hb2⟩
 clear c1 c2 hb1 hb2
 go_region
 go_wp2
 have hbe:Below w.heap.size w w3:=below_seq (((Below.refl _ w).alloc (Nat.le_refl _) _).alloc (by simp) _) H3.out
 have hk:Kept2 w3 w.heap.size _ _ _ _ _:=HB.out
 exact bodyPost_ret (v:=.tuple #[.agg #[.slice none 0 0,.slice none 0 0,.int .i64 0],.agg #[.int .i64 c,.int .i64 k]]) (Run_ends ((hk.put _ _ _ _ _).alloc _).drew rfl rfl) rfl ⟨rfl,((((((hbe.setCell (Nat.le_refl _) _).setCell (Nat.le_refl _) _).setCell (Nat.le_refl _) _).setCell (Nat.le_succ _) _).setCell (Nat.le_succ _) _).alloc (by simp;omega) _).drew⟩
end Go.Proofs.YtnkgbkkakokciacDoor.B
