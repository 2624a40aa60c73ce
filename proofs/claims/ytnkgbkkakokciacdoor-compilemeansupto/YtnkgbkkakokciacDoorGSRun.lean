import Derived.Test.YtnkgbkkakokciacDoorGBSize
import Derived.Test.YtnkgbkkakokciacDoorGJumps
import Derived.Laws.MakeOwn
namespace Go.Proofs.YtnkgbkkakokciacDoor
open Go.ChangeShapes Go.WideShapes Go.ChangeAt Go.RowKit
theorem formErr_no (x:In) (h:x.op<1∨18<x.op):formErr x=6:=by unfold formErr;rw [if_pos h]
theorem formErr_bad (m:Nat) (a b:Int) (h1:1≤m) (h2:m≤18) (h:a<lowA m∨highA m<a∨b<0∨highB m<b):formErr ⟨m,a,b⟩=3:=by
 unfold formErr
 rw [if_neg (by simp only;omega),if_pos (by simpa using h)]
theorem formErr_ok (m:Nat) (a b:Int) (h1:1≤m) (h2:m≤18) (h:¬ (a<lowA m∨highA m<a∨b<0∨highB m<b)):formErr ⟨m,a,b⟩=0:=by
 unfold formErr
 rw [if_neg (by simp only;omega),if_neg (by simpa using h)]
set_option maxRecDepth 20000 in
set_option maxHeartbeats 4000000 in
theorem form_yes (w:World) (hk:KindsIn w) (at_:Value) (m:Nat) (a b:Int) (h1:1≤m) (h2:m≤18):Calls Tryd.prog 67 #[at_,.agg #[.int .i64 m,.int .i64 a,.int .i64 b]] w fun r w'=>r = .returned (.int .i64 (formErr ⟨m,a,b⟩))∧Below w.heap.size w w':=by
 have H0:Hid (KindsIn w):=hk
 clear hk
 have HE:Hid ((a<lowA m∨highA m<a∨b<0∨highB m<b→formErr ⟨m,a,b⟩=3)∧(¬ (a<lowA m∨highA m<a∨b<0∨highB m<b)→formErr ⟨m,a,b⟩=0)):=⟨formErr_bad m a b h1 h2,formErr_ok m a b h1 h2⟩
 go_enter Tryd.func67,Tryd.ntmps67
 go_wp2_with (go_at_call 58;refine (isIns_yes _ m a b (by omega) (by omega)).mono ?_;rintro r w1 ⟨rfl,hb1⟩;have H1:Hid (Below w.heap.size w w1):=below_seq (below_new _ _) hb1;have c0:w1.cell? ⟨w.heap.size,0,none⟩=some (.int .i64 m):=below_cell hb1 (by go_simp);have c1:w1.cell? ⟨w.heap.size,1,none⟩=some (.int .i64 a):=below_cell hb1 (by go_simp);have c2:w1.cell? ⟨w.heap.size,2,none⟩=some (.int .i64 b):=below_cell hb1 (by go_simp);have hK:=(H0.out.below H1.out) m h1 h2;obtain ⟨k0,k1,k2,k3,k4,k5⟩:=hK;have l1:w.heap.size<w1.heap.size:=World.block_lt_of_cell? w1 _ c0;have H2:Hid (Below w.heap.size w (w1.alloc (.cells #[.int .i64 (lowA m),.int .i64 (highA m),.int .i64 (highB m),.int .i64 (takesOf m),.int .i64 (putsOf m),.int .i64 (tickOf m)] 111))):=H1.out.alloc (by omega) _;clear hb1;generalize lowA m=q0 at *;generalize highA m=q1 at *;generalize highB m=q2 at *)
 all_goals first
  | (have e:=HE.out.1 (by omega);go_ret;exact ⟨by rw [e];rfl,H2.out⟩)
  | (have e:=HE.out.2 (by omega);go_ret;exact ⟨by rw [e];rfl,H2.out⟩)
set_option maxRecDepth 20000 in
set_option maxHeartbeats 4000000 in
theorem form_no (w:World) (at_:Value) (op a b:Int) (h:op<1∨18<op):Calls Tryd.prog 67 #[at_,.agg #[.int .i64 op,.int .i64 a,.int .i64 b]] w fun r w'=>r = .returned (.int .i64 (formErr ⟨op,a,b⟩))∧Below w.heap.size w w':=by
 rw [formErr_no ⟨op,a,b⟩ h]
 go_enter Tryd.func67,Tryd.ntmps67
 go_wp2_with (go_at_call 58;refine (isIns_no _ op a b h).mono ?_;rintro r w1 ⟨rfl,hb1⟩;have H1:Hid (Below w.heap.size w w1):=below_seq (below_new _ _) hb1;clear hb1)
 go_ret
 exact ⟨rfl,H1.out⟩
theorem form_any (w:World) (hk:KindsIn w) (at_:Value) (x:In):Calls Tryd.prog 67 #[at_,x.val] w fun r w'=>r = .returned (.int .i64 (formErr x))∧Below w.heap.size w w':=by
 obtain ⟨op,a,b⟩:=x
 by_cases h:op<1∨18<op
 ·exact form_no w at_ op a b h
 ·obtain ⟨m,rfl⟩:∃ m:Nat,op=m:=⟨op.toNat,by omega⟩
  exact form_yes w hk at_ m a b (by omega) (by omega)
set_option maxRecDepth 20000 in
set_option maxHeartbeats 4000000 in
theorem jumps_any (w:World) (ad:Option Addr) (n c:Nat):Calls Tryd.prog 70 #[.slice ad n c] w fun r w'=>r = .returned (.func (Fn.func 105) #[] #[.pointer (some ⟨w.heap.size,0,none⟩)])∧w'=w.alloc (.cells #[.slice ad n c] 23):=by
 go_enter Tryd.func70,Tryd.ntmps70
 go_wp2_with fail
 go_ret
 exact ⟨rfl,rfl⟩
set_option maxRecDepth 20000 in
set_option maxHeartbeats 4000000 in
theorem stack_any (w:World) (mb:Nat):Calls Tryd.prog 71 #[.map (some mb)] w fun r w'=>r = .returned (.func (Fn.func 106) #[] #[.pointer (some ⟨w.heap.size,0,none⟩)])∧w'=w.alloc (.cells #[.map (some mb)] 105):=by
 go_enter Tryd.func71,Tryd.ntmps71
 go_wp2_with fail
 go_ret
 exact ⟨rfl,rfl⟩
theorem made_zeros (n:Nat):madeCells (Value.int .i64 0).cells n=(intVs (List.replicate n 0)).toArray:=by
 unfold madeCells intVs
 apply Array.ext
 ·simp
 ·intro i h1 h2
  have e:i % 1=0:=Nat.mod_one i
  simp [Value.cells,e]
theorem make_zeros (n:Nat) (hn:n≤4194304) (W:World):(Instr.makeSlice 23 (.int .i64 (n:Int)) (.int .i64 (n:Int))).run Tryd.prog W = .ok (.slice (some ⟨W.heap.size,0,none⟩) n n) (W.alloc (.cells (intVs (List.replicate n 0)).toArray 3)):=by
 obtain ⟨i0,hi0,hz0,hz1,hz2⟩:=info_parts infoI
 have h:=run_make (P:=Tryd.prog) W 23 3 i0 _ Tryd.underlying23 hi0 hz0 .i64 .i64 (n:Int) (n:Int) (by omega) (Int.le_refl _) (by rw [hz2];omega) (by omega)
 rw [hz1,Nat.mul_one,Int.toNat_natCast,made_zeros] at h
 exact h
set_option maxRecDepth 20000 in
set_option maxHeartbeats 4000000 in
theorem Check_many (w:World) (n:Nat) (iad:Option Addr) (ic:Nat) (hl:2000<n):Calls Tryd.prog 38 #[.slice iad n ic] w fun r w'=>r = .returned (.agg #[.int .i64 2,.int .i64 0])∧Below w.heap.size w w':=by
 have hg:(2000:Int)<(n:Int):=by omega
 go_enter Tryd.func38,Tryd.ntmps38
 go_wp2_with fail
 exact bodyPost_ret (v:=.agg #[.int .i64 2,.int .i64 0]) (by simp [results,Tryd.results38,go_sem]) rfl ⟨rfl,below_new _ _⟩
theorem check_start (w:World) (l:List In) (iad:Option Addr) (ic:Nat) (h:InSl w l (.slice iad l.length ic)) :
  ∃ w5,(Instr.mapUpdate 105 (.map (some (w.heap.size+1+1+1))) (.int .i64 0) (.int .i64 0)).run Tryd.prog ((((w.alloc (.cells #[.int .i64 0,.int .i64 0] 30)).alloc (.cells (intVs (List.replicate (l.length+1) 0)).toArray 3)).alloc (.cells #[.slice iad l.length ic,.slice none 0 0,.slice (some ⟨w.heap.size+1,0,none⟩) (l.length+1) (l.length+1)] 129)).alloc (.map #[] 0)) = .ok () w5∧Hid (NS w w5 w5 (w.heap.size+1+1) (w.heap.size+1) (w.heap.size+4) l (.slice iad l.length ic) [] (.slice none 0 0) (List.replicate (l.length+1) 0)∧HtAt w5 (w.heap.size+1+1+1) 1 (setH (fun _=>none) 0 0)∧w5.heap[w.heap.size]?=some (Obj.cells #[.int .i64 0,.int .i64 0] 30 (0,0))):=by
 obtain ⟨w5,hrun,hset,hg5⟩:=(HtAt.made (((w.alloc (.cells #[.int .i64 0,.int .i64 0] 30)).alloc (.cells (intVs (List.replicate (l.length+1) 0)).toArray 3)).alloc (.cells #[.slice iad l.length ic,.slice none 0 0,.slice (some ⟨w.heap.size+1,0,none⟩) (l.length+1) (l.length+1)] 129))).set (by omega) (z:=0) (v:=0) (by omega) (by omega)
 rw [show (((w.alloc (.cells #[.int .i64 0,.int .i64 0] 30)).alloc (.cells (intVs (List.replicate (l.length+1) 0)).toArray 3)).alloc (.cells #[.slice iad l.length ic,.slice none 0 0,.slice (some ⟨w.heap.size+1,0,none⟩) (l.length+1) (l.length+1)] 129)).heap.size=w.heap.size+1+1+1 by simp] at hrun hset hg5
 have hs5:=hg5.size
 simp at hs5
 have b2:w5.heap[w.heap.size+1+1]?=some (Obj.cells #[.slice iad l.length ic,.slice none 0 0,.slice (some ⟨w.heap.size+1,0,none⟩) (l.length+1) (l.length+1)] 129 (0,0)):=by
  rw [hg5.block _ (by first | (simp;done) | (simp;omega)) (by first | (simp;done) | (simp;omega)),Below.heap_alloc _ _ _ (by simp)]
  have:=heap_alloc_new ((w.alloc (.cells #[.int .i64 0,.int .i64 0] 30)).alloc (.cells (intVs (List.replicate (l.length+1) 0)).toArray 3)) (.cells #[.slice iad l.length ic,.slice none 0 0,.slice (some ⟨w.heap.size+1,0,none⟩) (l.length+1) (l.length+1)] 129)
  simpa using this
 have b1:w5.heap[w.heap.size+1]?=some (Obj.cells (intVs (List.replicate (l.length+1) 0)).toArray 3 (0,0)):=by
  rw [hg5.block _ (by first | (simp;done) | (simp;omega)) (by first | (simp;done) | (simp;omega)),Below.heap_alloc _ _ _ (by first | (simp;done) | (simp;omega)),Below.heap_alloc _ _ _ (by simp)]
  have:=heap_alloc_new (w.alloc (.cells #[.int .i64 0,.int .i64 0] 30)) (.cells (intVs (List.replicate (l.length+1) 0)).toArray 3)
  simpa using this
 have b0:w5.heap[w.heap.size]?=some (Obj.cells #[.int .i64 0,.int .i64 0] 30 (0,0)):=by
  rw [hg5.block _ (by first | (simp;done) | (simp;omega)) (by first | (simp;done) | (simp;omega)),Below.heap_alloc _ _ _ (by first | (simp;done) | (simp;omega)),Below.heap_alloc _ _ _ (by first | (simp;done) | (simp;omega)),Below.heap_alloc _ _ _ (by simp)]
  exact heap_alloc_new _ _
 have hbw:Below w.heap.size w w5:=((((below_new w _).alloc (by simp) _).alloc (by simp;omega) _).alloc (by simp;omega) _).grown hg5 (by simp;omega) (by intro j hj;simp at hj;omega)
 have HN:Hid (NS w w5 w5 (w.heap.size+1+1) (w.heap.size+1) (w.heap.size+4) l (.slice iad l.length ic) [] (.slice none 0 0) (List.replicate (l.length+1) 0)∧HtAt w5 (w.heap.size+1+1+1) 1 (setH (fun _=>none) 0 0)∧w5.heap[w.heap.size]?=some (Obj.cells #[.int .i64 0,.int .i64 0] 30 (0,0))):=⟨⟨b2,h,hbw,World.ownsRow_nil _ _ _ _,b1,by simp,(by simp),⟨⟨by omega,by omega⟩,by omega,by omega,by omega⟩,by omega,fun _ _ _ _=>rfl⟩,hset,b0⟩
 exact ⟨w5,hrun,HN⟩
end Go.Proofs.YtnkgbkkakokciacDoor
namespace Go.Proofs.YtnkgbkkakokciacDoor
def scan (f:Nat→In→Int):List In→Nat→Option (Int × Nat)
 | [],_=>none
 | x::r,k=>if f k x≠0 then some (f k x,k) else scan f r (k+1)
def nestScan (l:List In):List In→Nat→List Nat→List Int→(Int × Nat) ⊕ (List Nat × List Int)
 | [],_,os,ws=>.inr (os,ws)
 | x::r,k,os,ws=>if (nestOf l k x os).1≠0 then .inl ((nestOf l k x os).1,k) else nestScan l r (k+1) (nestOf l k x os).2 (ws.set k (beginOf os.getLast?))
def unclosedErr (os:List Nat) (k:Nat) (x:In):Int:=if k ∈ os then (if x.op=13 then 9 else 10) else 0
def stackScan:List In→Nat→(Int→Option Int)→(Int × Nat) ⊕ (Int→Option Int)
 | [],_,M=>.inr M
 | x::r,k,M=>if (stackStep M k x).1≠0 then .inl ((stackStep M k x).1,k) else stackScan r (k+1) (stackStep M k x).2
def M0:Int→Option Int:=setH (fun _=>none) 0 0
def checkI (l:List In):Int × Int :=
 if 2000<l.length then (2,0) else
 match scan (fun _ x=>formErr x) l 0 with
 | some (c,k)=>(c,k)
 | none =>
  match nestScan l l 0 [] (List.replicate (l.length+1) 0) with
  | .inl (c,k)=>(c,k)
  | .inr (os,ws) =>
   match scan (unclosedErr os) l 0 with
   | some (c,k)=>(c,k)
   | none =>
    match scan (jumpErr ws) l 0 with
    | some (c,k)=>(c,k)
    | none =>
     match stackScan l 0 M0 with
     | .inl (c,k)=>(c,k)
     | .inr M=>if (M l.length).getD 0≠0 then (8,l.length) else (0,0)
theorem drop_at {l:List In} {j:Nat} (h:j<l.length):l.drop j=l.getD j in0::l.drop (j+1):=by
 have hg:l.getD j in0=l[j]:=by rw [List.getD_eq_getElem?_getD,List.getElem?_eq_getElem h];rfl
 rw [hg]
 exact List.drop_eq_getElem_cons h
theorem scan_at (f:Nat→In→Int) {l:List In} {j:Nat} (h:j<l.length):scan f (l.drop j) j=if f j (l.getD j in0)≠0 then some (f j (l.getD j in0),j) else scan f (l.drop (j+1)) (j+1):=by
 rw [drop_at h,scan]
theorem nestScan_at (l0:List In) {l:List In} {j:Nat} (h:j<l.length) (os:List Nat) (ws:List Int):nestScan l0 (l.drop j) j os ws=if (nestOf l0 j (l.getD j in0) os).1≠0 then .inl ((nestOf l0 j (l.getD j in0) os).1,j) else nestScan l0 (l.drop (j+1)) (j+1) (nestOf l0 j (l.getD j in0) os).2 (ws.set j (beginOf os.getLast?)):=by
 rw [drop_at h,nestScan]
theorem stackScan_at {l:List In} {j:Nat} (h:j<l.length) (M:Int→Option Int):stackScan (l.drop j) j M=if (stackStep M j (l.getD j in0)).1≠0 then .inl ((stackStep M j (l.getD j in0)).1,j) else stackScan (l.drop (j+1)) (j+1) (stackStep M j (l.getD j in0)).2:=by
 rw [drop_at h,stackScan]
theorem nestOf_length (l:List In) (k:Nat) (x:In) (os:List Nat):(nestOf l k x os).2.length≤os.length+1:=by
 unfold nestOf
 split
 ·split <;> simp
 ·split
  ·split
   ·simp
   ·simp;omega
  ·split
   ·split
    ·simp
    ·simp;omega
   ·split
    ·split <;> simp
    ·simp
def imageL:List In:=[⟨13,0,2⟩,⟨2,0,0⟩,⟨9,0,0⟩,⟨4,0,0⟩,⟨3,0,0⟩,⟨14,0,1⟩,⟨2,0,0⟩,⟨1,2,0⟩,⟨6,0,0⟩,⟨10,1,0⟩]
theorem checkI_image:checkI imageL=(0,0):=by decide +kernel
end Go.Proofs.YtnkgbkkakokciacDoor
namespace Go.Proofs.YtnkgbkkakokciacDoor
open Go.ChangeShapes Go.WideShapes Go.ChangeAt Go.RowKit
theorem Check_ends {w:World} {g:Nat} {c k:Value} {a:Act} (h:w.heap[g]?=some (.cells #[c,k] 30 (0,0))) (h2:a.tmps[2]?.getD undef = .pointer (some ⟨g,0,none⟩)) :
  (results Tryd.f38 a.tmps).run Tryd.prog w = .ok (.agg #[c,k]) w:=by
 obtain ⟨c1,f1,l1⟩:=cells_of (l:=[_,_]) h
 have c10:=c1 0 _ rfl
 have c11:=c1 1 _ rfl
 simp [results,Tryd.results38,go_sem,h2,c10,c11]
structure FX (wF:World) (s mb wb n fj:Nat) (rb:Nat):Prop where
 res:wF.heap[s]?=some (.cells #[.int .i64 0,.int .i64 0] 30 (0,0))
 jmp:wF.heap[fj]?=some (.cells #[.slice (some ⟨wb,0,none⟩) (n+1) (n+1)] 23 (0,0))
 stk:wF.heap[fj+1]?=some (.cells #[.map (some mb)] 105 (0,0))
 lks:wF.heap[fj+1+1]?=some (.cells #[.func (Fn.func 67) #[] #[],.func (Fn.func 68) #[.pointer (some ⟨rb,0,none⟩)] #[],.func (Fn.func 69) #[.pointer (some ⟨rb,0,none⟩)] #[],.func (Fn.func 105) #[] #[.pointer (some ⟨fj,0,none⟩)],.func (Fn.func 106) #[] #[.pointer (some ⟨fj+1,0,none⟩)]] 131 (0,0))
 hts:HtAt wF mb 1 M0
theorem looks_fx (w5:World) {s mb wb n rb:Nat} (hr:w5.heap[s]?=some (.cells #[.int .i64 0,.int .i64 0] 30 (0,0))) (hh:HtAt w5 mb 1 M0) :
  FX (((w5.alloc (.cells #[.slice (some ⟨wb,0,none⟩) (n+1) (n+1)] 23)).alloc (.cells #[.map (some mb)] 105)).alloc (.cells #[.func (Fn.func 67) #[] #[],.func (Fn.func 68) #[.pointer (some ⟨rb,0,none⟩)] #[],.func (Fn.func 69) #[.pointer (some ⟨rb,0,none⟩)] #[],.func (Fn.func 105) #[] #[.pointer (some ⟨w5.heap.size,0,none⟩)],.func (Fn.func 106) #[] #[.pointer (some ⟨w5.heap.size+1,0,none⟩)]] 131)) s mb wb n w5.heap.size rb:=by
 have hs:s<w5.heap.size:=(Array.getElem?_eq_some_iff.1 hr).1
 refine ⟨?_,?_,?_,?_,?_⟩
 ·rw [Below.heap_alloc _ _ _ (by simp;omega),Below.heap_alloc _ _ _ (by simp;omega),Below.heap_alloc _ _ _ hs];exact hr
 ·rw [Below.heap_alloc _ _ _ (by simp;omega),Below.heap_alloc _ _ _ (by simp)];exact heap_alloc_new _ _
 ·rw [Below.heap_alloc _ _ _ (by simp)]
  have:=heap_alloc_new (w5.alloc (.cells #[.slice (some ⟨wb,0,none⟩) (n+1) (n+1)] 23)) (.cells #[.map (some mb)] 105)
  simpa using this
 ·have:=heap_alloc_new ((w5.alloc (.cells #[.slice (some ⟨wb,0,none⟩) (n+1) (n+1)] 23)).alloc (.cells #[.map (some mb)] 105)) (.cells #[.func (Fn.func 67) #[] #[],.func (Fn.func 68) #[.pointer (some ⟨rb,0,none⟩)] #[],.func (Fn.func 69) #[.pointer (some ⟨rb,0,none⟩)] #[],.func (Fn.func 105) #[] #[.pointer (some ⟨w5.heap.size,0,none⟩)],.func (Fn.func 106) #[] #[.pointer (some ⟨w5.heap.size+1,0,none⟩)]] 131)
  simpa using this
 ·exact hh.below (((below_new w5 _).alloc (by simp) _).alloc (by simp;omega) _)
theorem looks_ns {w w5:World} {rb wb B:Nat} {l:List In} {iv:Value} {ws:List Int} (h:NS w w5 w5 rb wb B l iv [] (.slice none 0 0) ws) (o1 o2 o3:Obj) :
  NS w (((w5.alloc o1).alloc o2).alloc o3) (((w5.alloc o1).alloc o2).alloc o3) rb wb (w5.heap.size+1+1+1) l iv [] (.slice none 0 0) ws :=
 (h.grow (((below_new w5 o1).alloc (by simp) o2).alloc (by simp;omega) o3)).rebase (by have:=h.bas;omega) (by simp)
theorem NS.within {w0 wF w:World} {rb wb B:Nat} {l:List In} {iv:Value} {os:List Nat} {ov:Value} {ws:List Int} (h:NS w0 wF w rb wb B l iv os ov ws):∀ j,j<ws.length→w.cell? ⟨wb,j,none⟩=some (.int .i64 (ws.getD j 0)):=by
 intro j hj
 refine (cells_of h.wth).1 j _ ?_
 simp [intVs,List.getD_eq_getElem?_getD,List.getElem?_eq_getElem hj]
theorem ways_low {k:Nat} {x:In} (hk:k≤2000) (h:formErr x=0):(∀ t ∈ waysOf k x,0≤t∧t≤1000000)∧(waysOf k x).length≤2:=by
 obtain ⟨op,a,b⟩:=x
 unfold formErr at h
 dsimp only at h
 split at h
 ·simp at h
 split at h
 ·simp at h
 rename_i h1 h2
 unfold waysOf
 dsimp only
 split
 ·rename_i e;subst e
  have l1:lowA (Int.toNat 11)=0:=by decide
  have l2:highA (Int.toNat 11)≤1000000:=by decide
  refine ⟨fun t ht=>?_,by simp⟩
  simp at ht;subst ht;omega
 split
 ·rename_i e;subst e
  have l1:lowA (Int.toNat 12)=0:=by decide
  have l2:highA (Int.toNat 12)≤1000000:=by decide
  refine ⟨fun t ht=>?_,by simp⟩
  simp at ht;rcases ht with rfl | rfl <;> omega
 split
 ·rename_i e;subst e
  have l2:highB (Int.toNat 14)≤1000000:=by decide
  refine ⟨fun t ht=>?_,by simp⟩
  simp at ht;rcases ht with rfl | rfl <;> omega
 ·refine ⟨fun t ht=>?_,by simp⟩
  simp at ht;subst ht;omega
theorem putWays_low (bh:Int) (hb:0≤bh∧bh≤20) (ts:List Int):∀ M:Int→Option Int,(∀ z h,M z=some h→0≤h∧h≤20)→∀ z h,(putWays bh ts M).2 z=some h→0≤h∧h≤20:=by
 induction ts with
 | nil=>intro M hM;exact hM
 | cons t r ih =>
  intro M hM
  rw [putWays]
  split
  ·exact hM
  ·refine ih _ fun z h hz=>?_
   unfold setH at hz
   split at hz
   ·cases hz;exact hb
   ·exact hM z h hz
theorem stack1_any (w:World) (fb mb N:Nat) (M:Int→Option Int) (k:Nat) (x:In) (hkk:KindsIn w) (hf:w.cell? ⟨fb,0,none⟩=some (.map (some mb))) (hM:HtAt w mb N M) (hk:k≤2000) (hx:formErr x=0) (hr:∀ z h,M z=some h→0≤h∧h≤20) (hN:N≤100000) (hmb:mb<w.heap.size) :
  Calls Tryd.prog 106 #[.int .i64 k,x.val,.pointer (some ⟨fb,0,none⟩)] w fun r w'=>r = .returned (.int .i64 (stackStep M k x).1)∧(∀ B0,B0≤mb→Below B0 w w')∧w.heap.size≤w'.heap.size∧(∀ j,j<w.heap.size→j≠mb→w'.heap[j]?=w.heap[j]?)∧HtAt w' mb (N+2) (stackStep M k x).2∧∀ z h,(stackStep M k x).2 z=some h→0≤h∧h≤20:=by
 obtain ⟨hlow,hlen⟩:=ways_low hk hx
 obtain ⟨op,a,b⟩:=x
 have hop:1≤op∧op≤18:=by
  unfold formErr at hx
  dsimp only at hx
  split at hx
  ·simp at hx
  ·omega
 obtain ⟨m,rfl⟩:∃ m:Nat,op=m:=⟨op.toNat,by omega⟩
 show Calls Tryd.prog 106 #[.int .i64 k,.agg #[.int .i64 m,.int .i64 a,.int .i64 b],.pointer (some ⟨fb,0,none⟩)] w _
 have htk:=takes_le (m:=m) (by omega)
 unfold stackStep
 dsimp only
 rw [Int.toNat_natCast]
 split
 ·rename_i hh
  refine (stack1_none w fb mb N M k m a b hf hM hk hh).mono ?_
  rintro r w' ⟨rfl,hb⟩
  exact ⟨rfl,fun B0 h0=>hb.mono (by omega),hb.size,fun j hj _=>hb.block j hj,(hM.below hb).mono (by omega),hr⟩
 ·rename_i h hh
  have hr1:=hr _ _ hh
  split
  ·rename_i hbad
   refine (stack1_bad w fb mb N M k m a b hkk hf hM hk (by omega) (by omega) h hh hr1 hbad).mono ?_
   rintro r w' ⟨rfl,hb⟩
   exact ⟨rfl,fun B0 h0=>hb.mono (by omega),hb.size,fun j hj _=>hb.block j hj,(hM.below hb).mono (by omega),hr⟩
  ·rename_i hgood
   rcases hp:putWays (h - takesOf m+putsOf m) (waysOf k ⟨m,a,b⟩) M with ⟨c,M'⟩
   have hpl:=putWays_low (h - takesOf m+putsOf m) (by omega) (waysOf k ⟨m,a,b⟩) M hr
   rw [hp] at hpl
   refine (stack1_good w fb mb N M k m a b hkk hf hM hk (by omega) (by omega) h hh hr1 (by omega) (by omega) _ rfl _ rfl hlow hN hlen c M' hp).mono ?_
   rintro r w' ⟨rfl,hg,hM'⟩
   exact ⟨rfl,fun B0 h0=>(Below.refl B0 w).grown hg (by omega) (by intro j hj;cases hj;exact h0),hg.size,fun j hj hne=>hg.block j hj (by intro e;cases e;exact hne rfl),hM',hpl⟩
end Go.Proofs.YtnkgbkkakokciacDoor
