import Derived.Test.YtnkgbkkakokciacDoorGMRunB
import Derived.Test.YtnkgbkkakokciacDoorGBWorth
import Derived.Test.YtnkgbkkakokciacDoorGAny
import Derived.Laws.MakeOwn
import Derived.Lib.SliceRun
namespace Go.Proofs.YtnkgbkkakokciacDoor.B
open Go.ChangeShapes Go.WideShapes Go.ChangeAt Go.RowKit
theorem JB.mono {m m':Int} {l:List Io} (h:JB m l) (hm:m≤m'):JB m' l:=fun x hx=>⟨fun e=>by have:=(h x hx).1 e;omega,fun e=>by have:=(h x hx).2 e;omega⟩
theorem JB.append {m:Int} {a b:List Io} (h:JB m a) (h':JB m b):JB m (a++b):=fun x hx=>by
 rcases List.mem_append.1 hx with hx | hx
 ·exact h x hx
 ·exact h' x hx
theorem JB.nil (m:Int):JB m []:=fun x hx=>by cases hx
theorem JB.mov {m d:Int} {l:List Io} (h:JB m l) (hd:0≤d):JB (m+d) (mv d l):=fun x hx=>by
 obtain ⟨y,hy,rfl⟩:=List.mem_map.1 hx
 have:=h y hy
 unfold mvI
 by_cases h1:y.op=11∨y.op=12
 ·rw [if_pos h1]
  exact ⟨fun _=>by have:=this.1 h1;dsimp only;omega,fun e=>by dsimp only at e;omega⟩
 ·rw [if_neg h1]
  by_cases h2:y.op=14
  ·rw [if_pos h2]
   exact ⟨fun e=>absurd e h1,fun _=>by have:=this.2 h2;dsimp only;omega⟩
  ·rw [if_neg h2]
   exact ⟨fun e=>absurd e h1,fun e=>absurd e h2⟩
theorem JB.join {m:Int} {a b:List Io} (h:JB m a) (h':JB b.length b) (hm:(a.length:Int)+b.length≤m):JB m (jn a b) :=
 h.append ((h'.mov (d:=a.length) (by omega)).mono (by omega))
theorem JB.one {m:Int} (op a b:Int) (h1:(op=11∨op=12)→0≤a∧a≤m) (h2:op=14→0≤b∧b≤m):JB m [⟨op,a,b⟩]:=fun x hx=>by
 have:x=⟨op,a,b⟩:=by simpa using hx
 subst this
 exact ⟨h1,h2⟩
theorem JB.free {m:Int} {l:List Io} (h:∀ d,mv d l=l):JB m l:=fun x hx=>by
 have h1:∀ y ∈ l,mvI 1 y=y:=by
  have:=h 1
  unfold mv at this
  exact fun y hy=>(List.map_inj_left.1 (this.trans (List.map_id l).symm)) y hy
 have:=h1 x hx
 unfold mvI at this
 refine ⟨fun e=>?_,fun e=>?_⟩
 ·rw [if_pos e] at this
  have:=congrArg In.a this
  dsimp only at this
  omega
 ·rw [if_neg (by omega),if_pos e] at this
  have:=congrArg In.b this
  dsimp only at this
  omega
mutual
theorem St.pc_jb:∀ (s:St) (i:Int),s.Lay→JB (s.pc i).length (s.pc i)
 | .mk k n e ck ca cb y l,i,h=>by
  rw [St.Lay] at h
  have hy:=St.pcAll_jb y i h.2.2.2.2.1
  have hy1:=St.pcAll_jb y (i+1) h.2.2.2.2.1
  have hl:=St.pcAll_jb l i h.2.2.2.2.2
  rw [St.pc]
  split
  ·rename_i hk
   exact (JB.free (fun d=>Ex.pc_mv d e (h.2.1 (.inl hk)))).append (JB.one _ _ _ (by omega) (by omega))
  split
  ·rename_i hk
   exact (JB.free (fun d=>Ex.pc_mv d e (h.2.1 (.inr hk)))).append (JB.one _ _ _ (by omega) (by omega))
  split
  ·rename_i hk
   obtain ⟨-,ha,hb⟩:=h.2.2.1 (.inl hk)
   have hc:∀ m,JB m (cdP ck ca cb):=fun m=>JB.free (fun d=>cdP_mv d ck ca cb ha hb)
   generalize cdP ck ca cb=C at *
   generalize St.pcAll y i=A at *
   generalize St.pcAll l i=B at *
   split
   ·refine JB.join ((hc _).append (JB.one _ _ _ (fun _=>?_) (by omega))) hy ?_ <;> simp only [ifP,jn_len,List.length_append,List.length_cons,List.length_nil] <;> omega
   ·unfold elP
    refine JB.join ((JB.join ((hc _).append (JB.one _ _ _ (fun _=>?_) (by omega))) hy ?_).append (JB.one _ _ _ (fun _=>?_) (by omega))) hl ?_ <;> simp only [jn_len,List.length_append,List.length_cons,List.length_nil] <;> omega
  split
  ·generalize St.pcAll y (i+1)=A at *
   split
   ·exact JB.nil _
   ·unfold lpP
    refine (JB.join (JB.one _ _ _ (by omega) (by omega)) hy1 ?_).append (JB.one _ _ _ (by omega) (fun _=>?_)) <;> simp only [jn_len,List.length_append,List.length_cons,List.length_nil] <;> omega
  split
  ·rename_i hk
   obtain ⟨-,ha,hb⟩:=h.2.2.1 (.inr hk)
   have hc:∀ m,JB m (cdP ck ca cb):=fun m=>JB.free (fun d=>cdP_mv d ck ca cb ha hb)
   generalize cdP ck ca cb=C at *
   generalize St.pcAll y (i+1)=A at *
   split
   ·exact JB.nil _
   ·have hw:JB (whP C A i).length (whP C A i):=by
     unfold whP
     refine (JB.join ((hc _).append (JB.one _ _ _ (fun _=>?_) (by omega))) hy1 ?_).append ((JB.one 11 _ 0 (fun _=>?_) (by omega)).append (JB.one 15 i 0 (by omega) (by omega))) <;> simp only [jn_len,List.length_append,List.length_cons,List.length_nil] <;> omega
    unfold lpP
    refine (JB.join (JB.one _ _ _ (by omega) (by omega)) hw ?_).append (JB.one _ _ _ (by omega) (fun _=>?_)) <;> simp only [jn_len,List.length_append,List.length_cons,List.length_nil] <;> omega
  split
  ·generalize St.pcAll y i=A at *
   refine (JB.join (JB.one _ _ _ (by omega) (by omega)) hy ?_).append (JB.one _ _ _ (by omega) (by omega))
   simp only [jn_len,List.length_append,List.length_cons,List.length_nil]
   omega
  ·exact JB.one _ _ _ (by omega) (by omega)
theorem St.pcAll_jb:∀ (a:List St) (i:Int),St.LayAll a→JB (St.pcAll a i).length (St.pcAll a i)
 | [],_,_=>JB.nil _
 | s::r,i,h=>by
  have h1:=St.pc_jb s i h.1
  have h2:=St.pcAll_jb r i h.2
  rw [St.pcAll]
  exact JB.join (h1.mono (by rw [jn_len];omega)) h2 (by rw [jn_len];omega)
end
end Go.Proofs.YtnkgbkkakokciacDoor.B
namespace Go.Proofs.YtnkgbkkakokciacDoor
open Go.ChangeShapes Go.WideShapes Go.ChangeAt Go.RowKit
def PutSl (w:World) (ps:List (Int × Int)) (v:Value):Prop:=∃ ad c,v = .slice ad ps.length c∧(ps=[]∨∃ b o,ad=some ⟨b,o,none⟩∧∀ j,j<ps.length→w.cell? ⟨b,o+j*2,none⟩=some (.int .i64 (ps.getD j (0,0)).1)∧w.cell? ⟨b,o+j*2+1,none⟩=some (.int .i64 (ps.getD j (0,0)).2))
theorem PutSl.below {w w':World} {ps:List (Int × Int)} {v:Value} (h:PutSl w ps v) (hb:Below w.heap.size w w'):PutSl w' ps v:=by
 obtain ⟨ad,c,h1,h2⟩:=h
 refine ⟨ad,c,h1,?_⟩
 rcases h2 with h2 | ⟨b,o,h2,h3⟩
 ·exact .inl h2
 ·exact .inr ⟨b,o,h2,fun j hj=>⟨below_cell hb (h3 j hj).1,below_cell hb (h3 j hj).2⟩⟩
set_option maxRecDepth 20000 in
set_option maxHeartbeats 4000000 in
theorem SameP_any (w:World) (ps:List (Int × Int)) (v v':Value) (hl:ps.length≤4194304) (h:PutSl w ps v) (h':PutSl w ps v') :
  Calls Tryd.prog 41 #[v,v'] w fun r w'=>r = .returned (.bool true)∧Below w.heap.size w w':=by
 obtain ⟨ad,c,rfl,hc⟩:=h
 obtain ⟨ad',c',rfl,hc'⟩:=h'
 have HR:Hid ((ps=[]∨∃ b o,ad=some ⟨b,o,none⟩∧∀ j,j<ps.length→w.cell? ⟨b,o+j*2,none⟩=some (.int .i64 (ps.getD j (0,0)).1)∧w.cell? ⟨b,o+j*2+1,none⟩=some (.int .i64 (ps.getD j (0,0)).2))∧(ps=[]∨∃ b o,ad'=some ⟨b,o,none⟩∧∀ j,j<ps.length→w.cell? ⟨b,o+j*2,none⟩=some (.int .i64 (ps.getD j (0,0)).1)∧w.cell? ⟨b,o+j*2+1,none⟩=some (.int .i64 (ps.getD j (0,0)).2))):=⟨hc,hc'⟩
 clear hc hc'
 go_enter Tryd.func41,Tryd.ntmps41
 go_wp2_with fail
 go_loopw [13] (fun x wr=>∃ j:Nat,j≤ps.length∧x = .int .i64 j∧Below w.heap.size w wr) (fun x _=>ps.length - (intOf x).toNat)
 case atStart=>exact ⟨0,Nat.zero_le _,rfl,Below.refl _ _⟩
 case round =>
  obtain ⟨j,hj,rfl,hb⟩:=hrel
  by_cases hlt:j<ps.length
  ·rcases HR.out.1 with h | ⟨b,o,had,hrow⟩
   ·rw [h] at hlt;simp at hlt
   rcases HR.out.2 with h | ⟨b',o',had',hrow'⟩
   ·rw [h] at hlt;simp at hlt
   subst had had'
   have c0:=below_cell hb (hrow j hlt).1
   have c1:=below_cell hb (hrow j hlt).2
   have d0:=below_cell hb (hrow' j hlt).1
   have d1:=below_cell hb (hrow' j hlt).2
   clear hrow hrow'
   generalize (ps.getD j (0,0)).1=z at *
   generalize (ps.getD j (0,0)).2=z' at *
   have HB:Hid (Below w.heap.size w wr):=hb
   clear hb
   go_wp2_with fail
   go_region
   go_wp2_with fail
   go_roundw
   case rel=>exact ⟨j+1,by omega,by go_num,HB.out.drew⟩
   case measure=>simp [intOf];omega
  ·have hje:j=ps.length:=by omega
   subst hje
   go_wp2_with fail
   go_ret
   exact ⟨rfl,hb⟩
def VB (w:World) (ub uc:Nat) (vs:List Int):Prop:=vs.length=8∧∃ cs:Array Value,w.heap[ub]?=some (.cells cs 3 (0,0))∧(8≤uc∧uc≤cs.size)∧∀ j,j<8→cs[j]?=some (.int .i64 (vs.getD j 0))
theorem VB.of_owns {w:World} {B:Nat} {v:Value} {vs:List Int} (h:w.ownsRow B 3 1 v vs.length (intVs vs)) (hl:vs.length=8):∃ ub uc,v = .slice (some ⟨ub,0,none⟩) 8 uc∧VB w ub uc vs∧B≤ub:=by
 have h':=h
 rw [hl] at h'
 obtain ⟨-,⟨e,he⟩ | ⟨g,cap,cur,rfl,hB,hg,hc,hm,hs,ht⟩⟩:=h'
 ·omega
 ·refine ⟨g,cap,rfl,⟨hl,cur,hg,⟨by omega,by omega⟩,fun j hj=>?_⟩,hB⟩
  have e:(cur.toList.take (8*1))[j]?=(intVs vs)[j]?:=by rw [ht]
  rw [List.getElem?_take_of_lt (by omega),intVs_at (by omega)] at e
  simpa using e
theorem putVs_at:∀ (ps:List (Int × Int)) (j:Nat),j<ps.length→(putVs ps)[j*2]?=some (.int .i64 (ps.getD j (0,0)).1)∧(putVs ps)[j*2+1]?=some (.int .i64 (ps.getD j (0,0)).2)
 | [],j,h=>by simp at h
 | p::r,0,_=>by simp [putVs]
 | p::r,j+1,h=>by
  have ih:=putVs_at r j (by simpa using h)
  have e:putVs (p::r) = .int .i64 p.1 :: .int .i64 p.2::putVs r:=by simp [putVs]
  rw [e,show (j+1)*2=j*2+1+1 by omega,show j*2+1+1+1=(j*2+1)+1+1 by omega]
  simpa using ih
theorem PutSl.of_own {w:World} {B:Nat} {v:Value} {ps:List (Int × Int)} (h:w.ownsRow B 43 2 v ps.length (putVs ps)):PutSl w ps v:=by
 obtain ⟨ad,cap,rfl⟩:=owns_value h
 refine ⟨ad,cap,rfl,?_⟩
 by_cases h0:ps=[]
 ·exact .inl h0
 have h':=h
 obtain ⟨-,⟨e,he⟩ | ⟨g,cap',cur,e,-,hg,-,-,-,ht⟩⟩:=h'
 ·exact absurd (List.length_eq_zero_iff.1 he) h0
 cases e
 refine .inr ⟨g,0,rfl,fun j hj=>?_⟩
 obtain ⟨h1,h2⟩:=putVs_at ps j hj
 rw [Nat.zero_add]
 exact ⟨(h.cellAt (j*2) (by omega)).trans h1,(h.cellAt (j*2+1) (by omega)).trans h2⟩
theorem docI_zero {l:List In} {k:Int} (h:docI l=(0,k)):k=0:=by
 unfold docI at h
 by_cases hl:2000<l.length
 ·rw [if_pos hl] at h;simp at h
 rw [if_neg hl] at h
 rcases hf:scan (fun _ x=>formErr x) l 0 with _ | ⟨c,j⟩
 rotate_left 1
 ·rw [hf] at h;exact absurd (congrArg Prod.fst h) (scan_bad _ l 0 hf)
 rw [hf] at h
 dsimp only at h
 rcases hn:docNest l l 0 [] [] with ⟨c,j⟩ | ⟨_ | ⟨o,os⟩,rs⟩
 ·rw [hn] at h;exact absurd (congrArg Prod.fst h) (docNest_bad l l 0 [] [] hn)
 rotate_left 1
 ·rw [hn] at h
  have:=congrArg Prod.fst h
  dsimp only at this
  split at this <;> simp at this
 rw [hn] at h
 dsimp only at h
 rcases hj:scan (docJump l rs) l 0 with _ | ⟨c,j⟩
 rotate_left 1
 ·rw [hj] at h;exact absurd (congrArg Prod.fst h) (scan_bad _ l 0 hj)
 rw [hj] at h
 dsimp only at h
 rcases hs:stackScan l 0 M0 with ⟨c,j⟩ | M
 ·rw [hs] at h;exact absurd (congrArg Prod.fst h) (stackScan_bad l 0 M0 hs)
 rw [hs] at h
 dsimp only at h
 split at h
 ·simp at h
 ·exact (congrArg Prod.snd h).symm
def resF (l:List In) (vs ins:List Int):(Int × Int) × List Int × List (Int × Int) × Int :=
 if (docI l).1≠0 then (docI l,[],[],0) else if vs.length≠8∨ins.length≠4 then ((3,0),[],[],0) else
 match runF l ins 20000 (ms0 vs) 0 with
 | .inl p=>((11,(p:Int)),[],[],0)
 | .inr (s,t)=>((0,0),s.vs,s.ps,t)
theorem res_bad {l:List In} {vs ins:List Int} {c k:Int} (h:docI l=(c,k)) (h0:c≠0):resF l vs ins=((c,k),[],[],0):=by
 unfold resF;rw [h,if_pos h0]
theorem res_range {l:List In} {vs ins:List Int} (h:docI l=(0,0)) (h0:vs.length≠8∨ins.length≠4):resF l vs ins=((3,0),[],[],0):=by
 unfold resF;rw [h,if_neg (by simp),if_pos h0]
theorem res_run {l:List In} {vs ins:List Int} (h:docI l=(0,0)) (hv:vs.length=8) (hi:ins.length=4):resF l vs ins=match runF l ins 20000 (ms0 vs) 0 with
 | .inl p=>((11,(p:Int)),[],[],0)
 | .inr (s,t)=>((0,0),s.vs,s.ps,t):=by
 unfold resF;rw [h,if_neg (by simp),if_neg (by omega)]
def ansV (u q:Value) (m:(Int × Int) × List Int × List (Int × Int) × Int):Value:=.tuple #[.agg #[u,q,.int .i64 m.2.2.2],.agg #[.int .i64 m.1.1,.int .i64 m.1.2]]
def RunIs (w:World) (l:List In) (vs ins:List Int) (r:Ending) (w':World):Prop:=Below w.heap.size w w'∧∃ u q,r = .returned (ansV u q (resF l vs ins)) ∧
 w'.ownsRow w.heap.size 3 1 u (resF l vs ins).2.1.length (intVs (resF l vs ins).2.1)∧w'.ownsRow w.heap.size 43 2 q (resF l vs ins).2.2.1.length (putVs (resF l vs ins).2.2.1)∧(∀ k,u.ownBlock=some k→q.ownBlock≠some k)
theorem RunIs.fail {w w':World} {l:List In} {vs ins:List Int} {r:Ending} {c k:Int} (hr:resF l vs ins=((c,k),[],[],0)) (h:r = .returned (failV c k)∧Below w.heap.size w w'):RunIs w l vs ins r w':=by
 refine ⟨h.2,.slice none 0 0,.slice none 0 0,?_,?_,?_,fun k hk=>by cases hk⟩
 ·rw [h.1,hr];rfl
 ·rw [hr];exact World.ownsRow_nil _ _ _ _
 ·rw [hr];exact World.ownsRow_nil _ _ _ _
theorem Run_is (w:World) (l:List In) (iad:Option Addr) (ic:Nat) (vad nad:Option Addr) (vc nc:Nat) (vs ins:List Int) (hkk:KindsIn w) (h:InSl w l (.slice iad l.length ic)) (hnil:iad=none→l.length=0∧ic=0) (hvs:IntSl w vs (.slice vad vs.length vc)) (hins:IntSl w ins (.slice nad ins.length nc)) :
  Calls Tryd.prog 13 #[.slice iad l.length ic,.slice vad vs.length vc,.slice nad ins.length nc] w (RunIs w l vs ins):=by
 obtain ⟨c,k,hc⟩:∃ c k,docI l=(c,k):=⟨_,_,rfl⟩
 by_cases h0:c=0
 ·subst h0
  have:=docI_zero hc
  subst this
  have hck:checkI l=(0,0):=(doc_check l).symm.trans hc
  by_cases hnm:vs.length≠8∨ins.length≠4
  ·exact (Run_range w l iad ic vad nad _ _ vc nc hkk h 0 hck hnm).mono fun r w' hr=>RunIs.fail (res_range hc hnm) hr
  ·have hv:vs.length=8:=by omega
   have hi:ins.length=4:=by omega
   obtain ⟨M,g⟩:=good_of hc
   have:=Run_ok w l M iad ic vad nad vc nc vs ins g hkk h hnil 0 hck hv hi hvs hins
   rw [hv,hi]
   refine this.mono fun r w' hr=>?_
   obtain ⟨hb,⟨p,e,rfl⟩ | ⟨s,t,u,q,e,rfl,h1,h2,h3,-⟩⟩:=hr
   ·exact RunIs.fail (by rw [res_run hc hv hi,e]) ⟨rfl,hb⟩
   ·have er:resF l vs ins=((0,0),s.vs,s.ps,t):=by rw [res_run hc hv hi,e]
    refine ⟨hb,u,q,?_,?_,?_,h3⟩
    ·rw [er];rfl
    ·rw [er];exact h1
    ·rw [er];exact h2
 ·exact (Run_bad w l iad ic _ _ hkk h c k ((doc_check l).symm.trans hc) h0).mono fun r w' hr=>RunIs.fail (res_bad hc h0) hr
def zeros8:List Int:=[0,0,0,0,0,0,0,0]
def fives4:List Int:=[5,0,0,0]
def doneV:List Int:=[15,0,0,0,0,0,0,0]
def doneP:List (Int × Int):=[(1,30)]
def BodyAt (w:World) (v:Value):Prop:=∃ ad c,v = .slice ad imageL.length c∧InSl w imageL v∧(ad=none→imageL.length=0∧c=0)
theorem BodyAt.below {w w':World} {v:Value} (h:BodyAt w v) (hb:Below w.heap.size w w'):BodyAt w' v:=by
 obtain ⟨ad,c,h1,h2,h3⟩:=h
 exact ⟨ad,c,h1,h2.below hb,h3⟩
theorem res_image:resF imageL zeros8 fives4=((0,0),doneV,doneP,28):=by
 rw [res_run ((doc_check imageL).trans checkI_image) rfl rfl]
 have e:runF imageL fives4 20000 (ms0 zeros8) 0=_:=run_image
 rw [e]
 rfl
def endV (vb vc:Nat) (pad:Option Addr) (pcap:Nat):Value:=.agg #[.slice (some ⟨vb,0,none⟩) 8 vc,.slice pad 1 pcap,.int .i64 28]
def okV:Value:=.agg #[.int .i64 0,.int .i64 0]
def RanAt (w:World) (vb vc:Nat) (pad:Option Addr) (pcap:Nat):Prop:=VB w vb vc doneV∧∃ B,w.ownsRow B 43 2 (.slice pad 1 pcap) 1 (putVs doneP)
theorem RanAt.move {w w':World} {vb vc pcap:Nat} {pad:Option Addr} (h:RanAt w vb vc pad pcap) (hb:∀ (k:Nat) (cs:Array Value) (t:TypeId),(t=3∨t=43)→w.heap[k]?=some (Obj.cells cs t (0,0))→w'.heap[k]?=some (Obj.cells cs t (0,0))):RanAt w' vb vc pad pcap:=by
 obtain ⟨⟨l8,cs,h1,h2,h3⟩,B,hl,h4⟩:=h
 refine ⟨⟨l8,cs,hb _ _ _ (.inl rfl) h1,h2,h3⟩,B,hl,?_⟩
 rcases h4 with h4 | ⟨g,cap,cur,e,hB,hg,hr⟩
 ·exact .inl h4
 ·exact .inr ⟨g,cap,cur,e,hB,hb _ _ _ (.inr rfl) hg,hr⟩
theorem RanAt.below {w w':World} {vb vc pcap:Nat} {pad:Option Addr} (h:RanAt w vb vc pad pcap) (hb:Below w.heap.size w w'):RanAt w' vb vc pad pcap :=
 h.move fun k _ _ _ hk=>(hb.block k (Array.getElem?_eq_some_iff.1 hk).1).trans hk
def Blk3 (w w':World) (x:Value) (c0 c1 c2:Value):Prop:=∃ g,x = .pointer (some ⟨g,0,none⟩)∧w.heap.size≤g∧w'.heap[g]?=some (.cells #[c0,c1,c2] 27 (0,0))
def Blk2 (w w':World) (x:Value) (c0 c1:Value):Prop:=∃ g,x = .pointer (some ⟨g,0,none⟩)∧w.heap.size≤g∧w'.heap[g]?=some (.cells #[c0,c1] 30 (0,0))
theorem Blk3.below {w0 w w':World} {x c0 c1 c2:Value} (h:Blk3 w0 w x c0 c1 c2) (hb:Below w.heap.size w w'):Blk3 w0 w' x c0 c1 c2:=by
 obtain ⟨g,h1,h2,h3⟩:=h
 exact ⟨g,h1,h2,(hb.block g (Array.getElem?_eq_some_iff.1 h3).1).trans h3⟩
theorem Blk2.below {w0 w w':World} {x c0 c1:Value} (h:Blk2 w0 w x c0 c1) (hb:Below w.heap.size w w'):Blk2 w0 w' x c0 c1:=by
 obtain ⟨g,h1,h2,h3⟩:=h
 exact ⟨g,h1,h2,(hb.block g (Array.getElem?_eq_some_iff.1 h3).1).trans h3⟩
structure DF (w:World) (l0 l1 l2 l3 l4 l5 l6 l7 l8 l9 l10:Bool) (x1 x2 x3 x4 x5 x6 x7 x8 x9:Value) (w':World):Prop where
 bel:Below w.heap.size w w'
 mid:(l3=false∧l4=false∧l5=false∧l6=false∧l9=false∧l10=false∧(l0=true→BodyAt w' x4)∧(l1=true→∃ k,x5 = .slice (some ⟨k,0,none⟩) 8 8∧IntSl w' zeros8 x5)∧(l2=true→∃ k,x6 = .slice (some ⟨k,0,none⟩) 4 4∧IntSl w' fives4 x6)) ∨
  (l3=true∧l0=true∧l1=true∧l2=true∧∃ vb vc pad pcap,RanAt w' vb vc pad pcap∧x7 = .tuple #[endV vb vc pad pcap,okV]∧(l4=true→x3 = .tuple #[endV vb vc pad pcap,okV])∧(l4=false→l5=false∧l6=false)∧(l5=true→x8=endV vb vc pad pcap)∧(l5=false→l9=false)∧(l6=true→x9=okV)∧(l6=false→l10=false))
 b3:(l7=false∧l9=false)∨(l7=true∧∃ c0 c1 c2,Blk3 w w' x1 c0 c1 c2∧(l9=true→x8 = .agg #[c0,c1,c2]))
 b2:(l8=false∧l10=false)∨(l8=true∧∃ c0 c1,Blk2 w w' x2 c0 c1∧(l10=true→x9 = .agg #[c0,c1]))
theorem DF.grow {w:World} {l0 l1 l2 l3 l4 l5 l6 l7 l8 l9 l10:Bool} {x1 x2 x3 x4 x5 x6 x7 x8 x9:Value} {w' w'':World} (h:DF w l0 l1 l2 l3 l4 l5 l6 l7 l8 l9 l10 x1 x2 x3 x4 x5 x6 x7 x8 x9 w') (hb:Below w'.heap.size w' w''):DF w l0 l1 l2 l3 l4 l5 l6 l7 l8 l9 l10 x1 x2 x3 x4 x5 x6 x7 x8 x9 w'':=by
 obtain ⟨h1,h2,h3,h4⟩:=h
 refine ⟨below_seq h1 hb,?_,?_,?_⟩
 ·rcases h2 with ⟨a,b,c,d,e,f,g,i,j⟩ | ⟨a,b,c,d,vb,vc,pad,pcap,h,r⟩
  ·refine .inl ⟨a,b,c,d,e,f,fun q=>(g q).below hb,fun q=>?_,fun q=>?_⟩
   ·obtain ⟨k,e,hk⟩:=i q;exact ⟨k,e,hk.below hb⟩
   ·obtain ⟨k,e,hk⟩:=j q;exact ⟨k,e,hk.below hb⟩
  ·exact .inr ⟨a,b,c,d,vb,vc,pad,pcap,h.below hb,r⟩
 ·rcases h3 with h3 | ⟨a,c0,c1,c2,h,r⟩
  ·exact .inl h3
  ·exact .inr ⟨a,c0,c1,c2,h.below hb,r⟩
 ·rcases h4 with h4 | ⟨a,c0,c1,h,r⟩
  ·exact .inl h4
  ·exact .inr ⟨a,c0,c1,h.below hb,r⟩
theorem DF.last {w:World} {x1 x2 x3 x4 x5 x6 x7 x8 x9:Value} {w':World} (h:DF w true true true true true true true true true true true x1 x2 x3 x4 x5 x6 x7 x8 x9 w') :
  ∃ g g' vb vc pad pcap,x1 = .pointer (some ⟨g,0,none⟩)∧x2 = .pointer (some ⟨g',0,none⟩)∧Hid (RanAt w' vb vc pad pcap∧Below w.heap.size w w')∧w'.heap[g]?=some (.cells #[.slice (some ⟨vb,0,none⟩) 8 vc,.slice pad 1 pcap,.int .i64 28] 27 (0,0))∧w'.heap[g']?=some (.cells #[.int .i64 0,.int .i64 0] 30 (0,0)):=by
 obtain ⟨h1,h2,h3,h4⟩:=h
 rcases h2 with ⟨a,-⟩ | ⟨-,-,-,-,vb,vc,pad,pcap,h,-,-,-,r5,-,r6,-⟩
 ·cases a
 rcases h3 with ⟨a,-⟩ | ⟨-,c0,c1,c2,⟨g,e,-,hg⟩,r⟩
 ·cases a
 rcases h4 with ⟨a,-⟩ | ⟨-,d0,d1,⟨g',e',-,hg'⟩,r'⟩
 ·cases a
 have e8:=(r rfl).symm.trans (r5 rfl)
 have e9:=(r' rfl).symm.trans (r6 rfl)
 unfold endV at e8
 unfold okV at e9
 simp at e8 e9
 obtain ⟨rfl,rfl,rfl⟩:=e8
 obtain ⟨rfl,rfl⟩:=e9
 exact ⟨g,g',vb,vc,pad,pcap,e,e',⟨h,h1⟩,hg,hg'⟩
theorem DF.s0 {w:World} {l1 l2 l3 l4 l5 l6 l7 l8 l9 l10:Bool} {x1 x2 x3 x4 x5 x6 x7 x8 x9:Value} {w':World} (h:DF w false l1 l2 l3 l4 l5 l6 l7 l8 l9 l10 x1 x2 x3 x4 x5 x6 x7 x8 x9 w') {v:Value} (hv:BodyAt w' v) :
  DF w true l1 l2 l3 l4 l5 l6 l7 l8 l9 l10 x1 x2 x3 v x5 x6 x7 x8 x9 w':=by
 obtain ⟨h1,h2,h3,h4⟩:=h
 refine ⟨h1,?_,h3,h4⟩
 rcases h2 with ⟨a,b,c,d,e,f,-,i,j⟩ | ⟨-,b,-⟩
 ·exact .inl ⟨a,b,c,d,e,f,fun _=>hv,i,j⟩
 ·cases b
theorem DF.s1 {w:World} {l0 l2 l3 l4 l5 l6 l7 l8 l9 l10:Bool} {x1 x2 x3 x4 x5 x6 x7 x8 x9:Value} {w':World} (h:DF w l0 false l2 l3 l4 l5 l6 l7 l8 l9 l10 x1 x2 x3 x4 x5 x6 x7 x8 x9 w') {v:Value} (hv:∃ k,v = .slice (some ⟨k,0,none⟩) 8 8∧IntSl w' zeros8 v) :
  DF w l0 true l2 l3 l4 l5 l6 l7 l8 l9 l10 x1 x2 x3 x4 v x6 x7 x8 x9 w':=by
 obtain ⟨h1,h2,h3,h4⟩:=h
 refine ⟨h1,?_,h3,h4⟩
 rcases h2 with ⟨a,b,c,d,e,f,g,-,j⟩ | ⟨-,-,b,-⟩
 ·exact .inl ⟨a,b,c,d,e,f,g,fun _=>hv,j⟩
 ·cases b
theorem DF.s2 {w:World} {l0 l1 l3 l4 l5 l6 l7 l8 l9 l10:Bool} {x1 x2 x3 x4 x5 x6 x7 x8 x9:Value} {w':World} (h:DF w l0 l1 false l3 l4 l5 l6 l7 l8 l9 l10 x1 x2 x3 x4 x5 x6 x7 x8 x9 w') {v:Value} (hv:∃ k,v = .slice (some ⟨k,0,none⟩) 4 4∧IntSl w' fives4 v) :
  DF w l0 l1 true l3 l4 l5 l6 l7 l8 l9 l10 x1 x2 x3 x4 x5 v x7 x8 x9 w':=by
 obtain ⟨h1,h2,h3,h4⟩:=h
 refine ⟨h1,?_,h3,h4⟩
 rcases h2 with ⟨a,b,c,d,e,f,g,i,-⟩ | ⟨-,-,-,b,-⟩
 ·exact .inl ⟨a,b,c,d,e,f,g,i,fun _=>hv⟩
 ·cases b
theorem DF.s3 {w:World} {l4 l5 l6 l7 l8 l9 l10:Bool} {x1 x2 x3 x4 x5 x6 x7 x8 x9:Value} {w':World} (h:DF w true true true false l4 l5 l6 l7 l8 l9 l10 x1 x2 x3 x4 x5 x6 x7 x8 x9 w') {vb vc pcap:Nat} {pad:Option Addr} (hv:RanAt w' vb vc pad pcap) :
  DF w true true true true l4 l5 l6 l7 l8 l9 l10 x1 x2 x3 x4 x5 x6 (.tuple #[endV vb vc pad pcap,okV]) x8 x9 w':=by
 obtain ⟨h1,h2,h3,h4⟩:=h
 refine ⟨h1,?_,h3,h4⟩
 rcases h2 with ⟨a,b,c,d,e,f,g,i,-⟩ | ⟨b,-⟩
 ·subst b c d e f
  exact .inr ⟨rfl,rfl,rfl,rfl,vb,vc,pad,pcap,hv,rfl,(fun h=>by cases h),(fun _=>⟨rfl,rfl⟩),(fun h=>by cases h),(fun _=>rfl),(fun h=>by cases h),(fun _=>rfl)⟩
 ·cases b
theorem DF.s4 {w:World} {l0 l1 l2 l5 l6 l7 l8 l9 l10:Bool} {x1 x2 x3 x4 x5 x6 x7 x8 x9:Value} {w':World} (h:DF w l0 l1 l2 true false l5 l6 l7 l8 l9 l10 x1 x2 x3 x4 x5 x6 x7 x8 x9 w')  :
  DF w l0 l1 l2 true true l5 l6 l7 l8 l9 l10 x1 x2 x7 x4 x5 x6 x7 x8 x9 w':=by
 obtain ⟨h1,h2,h3,h4⟩:=h
 refine ⟨h1,?_,h3,h4⟩
 rcases h2 with ⟨a,-⟩ | ⟨a,b,c,d,vb,vc,pad,pcap,h,e7,-,e4,r⟩
 ·cases a
 ·obtain ⟨rfl,rfl⟩:=e4 rfl
  exact .inr ⟨a,b,c,d,vb,vc,pad,pcap,h,e7,(fun _=>e7),(fun h=>by cases h),r⟩
theorem DF.s5 {w:World} {l0 l1 l2 l3 l6 l7 l8 l9 l10:Bool} {x1 x2 x3 x4 x5 x6 x7 x8 x9:Value} {w':World} (h:DF w l0 l1 l2 l3 true false l6 l7 l8 l9 l10 x1 x2 x3 x4 x5 x6 x7 x8 x9 w') {v:Value} (hv:∀ y z,x3 = .tuple #[y,z]→v=y) :
  DF w l0 l1 l2 l3 true true l6 l7 l8 l9 l10 x1 x2 x3 x4 x5 x6 x7 v x9 w':=by
 obtain ⟨h1,h2,h3,h4⟩:=h
 rcases h2 with ⟨-,a,-⟩ | ⟨a,b,c,d,vb,vc,pad,pcap,h,e7,e4,-,-,e5,r⟩
 ·cases a
 ·have e9:=e5 rfl
  subst e9
  refine ⟨h1,.inr ⟨a,b,c,d,vb,vc,pad,pcap,h,e7,e4,(fun h=>by cases h),(fun _=>hv _ _ (e4 rfl)),(fun h=>by cases h),r⟩,?_,h4⟩
  rcases h3 with h3 | ⟨q,c0,c1,c2,hb,-⟩
  ·exact .inl h3
  ·exact .inr ⟨q,c0,c1,c2,hb,fun h=>by cases h⟩
theorem DF.s6 {w:World} {l0 l1 l2 l3 l5 l7 l8 l9 l10:Bool} {x1 x2 x3 x4 x5 x6 x7 x8 x9:Value} {w':World} (h:DF w l0 l1 l2 l3 true l5 false l7 l8 l9 l10 x1 x2 x3 x4 x5 x6 x7 x8 x9 w') {v:Value} (hv:∀ y z,x3 = .tuple #[y,z]→v=z) :
  DF w l0 l1 l2 l3 true l5 true l7 l8 l9 l10 x1 x2 x3 x4 x5 x6 x7 x8 v w':=by
 obtain ⟨h1,h2,h3,h4⟩:=h
 rcases h2 with ⟨-,a,-⟩ | ⟨a,b,c,d,vb,vc,pad,pcap,h,e7,e4,-,e5,e5',-,e6⟩
 ·cases a
 ·have e10:=e6 rfl
  subst e10
  refine ⟨h1,.inr ⟨a,b,c,d,vb,vc,pad,pcap,h,e7,e4,(fun h=>by cases h),e5,e5',(fun _=>hv _ _ (e4 rfl)),(fun h=>by cases h)⟩,h3,?_⟩
  rcases h4 with h4 | ⟨q,c0,c1,hb,-⟩
  ·exact .inl h4
  ·exact .inr ⟨q,c0,c1,hb,fun h=>by cases h⟩
theorem DF.s7 {w:World} {l0 l1 l2 l3 l4 l5 l6 l8 l9 l10:Bool} {x1 x2 x3 x4 x5 x6 x7 x8 x9:Value} {w':World} (h:DF w l0 l1 l2 l3 l4 l5 l6 false l8 l9 l10 x1 x2 x3 x4 x5 x6 x7 x8 x9 w') {v c0 c1 c2:Value} (hv:Blk3 w w' v c0 c1 c2) :
  DF w l0 l1 l2 l3 l4 l5 l6 true l8 l9 l10 v x2 x3 x4 x5 x6 x7 x8 x9 w':=by
 obtain ⟨h1,h2,h3,h4⟩:=h
 refine ⟨h1,h2,?_,h4⟩
 rcases h3 with ⟨-,e⟩ | ⟨q,-⟩
 ·exact .inr ⟨rfl,c0,c1,c2,hv,fun h=>by rw [e] at h;cases h⟩
 ·cases q
theorem DF.s8 {w:World} {l0 l1 l2 l3 l4 l5 l6 l7 l9 l10:Bool} {x1 x2 x3 x4 x5 x6 x7 x8 x9:Value} {w':World} (h:DF w l0 l1 l2 l3 l4 l5 l6 l7 false l9 l10 x1 x2 x3 x4 x5 x6 x7 x8 x9 w') {v c0 c1:Value} (hv:Blk2 w w' v c0 c1) :
  DF w l0 l1 l2 l3 l4 l5 l6 l7 true l9 l10 x1 v x3 x4 x5 x6 x7 x8 x9 w':=by
 obtain ⟨h1,h2,h3,h4⟩:=h
 refine ⟨h1,h2,h3,?_⟩
 rcases h4 with ⟨-,e⟩ | ⟨q,-⟩
 ·exact .inr ⟨rfl,c0,c1,hv,fun h=>by rw [e] at h;cases h⟩
 ·cases q
theorem other_block {w:World} {g k:Nat} {cs cs':Array Value} {t t':TypeId} {a:Addr} {u:Value} (hg:w.heap[g]?=some (Obj.cells cs t (0,0))) (hk:w.heap[k]?=some (Obj.cells cs' t' (0,0))) (ht:t≠t') (ha:a.block=g):(w.setCell a u).heap[k]?=some (Obj.cells cs' t' (0,0)):=by
 have hne:k≠g:=by
  intro e
  subst e
  rw [hg] at hk
  simp at hk
  exact ht hk.2
 rw [Below.heap_setCell _ _ _ _ (by rw [ha];exact hne)]
 exact hk
theorem DF.shape {w:World} {l0 l1 l2 l3 l4 l5 l6 l7 l8 l9 l10:Bool} {x1 x2 x3 x4 x5 x6 x7 x8 x9:Value} {w':World} (h:DF w l0 l1 l2 l3 l4 l5 l6 l7 l8 l9 l10 x1 x2 x3 x4 x5 x6 x7 x8 x9 w') (h3:l3=true):∃ vb vc pad pcap,(l4=true→x3 = .tuple #[endV vb vc pad pcap,okV])∧(l5=true→x8=endV vb vc pad pcap)∧(l6=true→x9=okV):=by
 rcases h.mid with ⟨a,-⟩ | ⟨-,-,-,-,vb,vc,pad,pcap,-,-,e4,-,e5,-,e6,-⟩
 ·rw [h3] at a;cases a
 ·exact ⟨vb,vc,pad,pcap,e4,e5,e6⟩
theorem DF.s9 {w:World} {l0 l1 l2 l4 l6 l8 l9 l10:Bool} {x1 x2 x3 x4 x5 x6 x7 x8 x9:Value} {w':World} {g:Nat} {c0 c1 c2 d0 d1 d2:Value} (h:DF w l0 l1 l2 true l4 true l6 true l8 l9 l10 x1 x2 x3 x4 x5 x6 x7 x8 x9 w') (hx:x1 = .pointer (some ⟨g,0,none⟩)) (hg0:w.heap.size≤g) (hg:w'.heap[g]?=some (.cells #[c0,c1,c2] 27 (0,0))) (h8:x8 = .agg #[d0,d1,d2]) :
  DF w l0 l1 l2 true l4 true l6 true l8 true l10 x1 x2 x3 x4 x5 x6 x7 x8 x9 (((w'.setCell ⟨g,0,none⟩ d0).setCell ⟨g,1,none⟩ d1).setCell ⟨g,2,none⟩ d2):=by
 obtain ⟨h1,h2,h3,h4⟩:=h
 have q1:=setCell_at (i:=0) (u:=d0) hg
 have q2:=setCell_at (i:=1) (u:=d1) q1
 have q3:=setCell_at (i:=2) (u:=d2) q2
 have mv:∀ (k:Nat) (cs:Array Value) (t:TypeId),t≠27→w'.heap[k]?=some (Obj.cells cs t (0,0))→(((w'.setCell ⟨g,0,none⟩ d0).setCell ⟨g,1,none⟩ d1).setCell ⟨g,2,none⟩ d2).heap[k]?=some (Obj.cells cs t (0,0)):=fun k cs t ht hk =>
  other_block q2 (other_block q1 (other_block hg hk (Ne.symm ht) rfl) (Ne.symm ht) rfl) (Ne.symm ht) rfl
 refine ⟨((h1.setCell hg0 _).setCell hg0 _).setCell hg0 _,?_,.inr ⟨rfl,d0,d1,d2,⟨g,hx,hg0,by simpa using q3⟩,fun _=>h8⟩,?_⟩
 ·rcases h2 with ⟨a,-⟩ | ⟨a,b,c,d,vb,vc,pad,pcap,h,e7,e4,e4',e5,-,r⟩
  ·cases a
  ·exact .inr ⟨a,b,c,d,vb,vc,pad,pcap,h.move (fun k cs t ht hk=>mv k cs t (by rcases ht with rfl | rfl <;> decide) hk),e7,e4,e4',e5,(fun h=>by cases h),r⟩
 ·rcases h4 with h4 | ⟨q,b0,b1,⟨k,hk1,hk2,hk3⟩,r⟩
  ·exact .inl h4
  ·exact .inr ⟨q,b0,b1,⟨k,hk1,hk2,mv k _ 30 (by decide) hk3⟩,r⟩
theorem DF.s10 {w:World} {l0 l1 l2 l4 l5 l7 l9 l10:Bool} {x1 x2 x3 x4 x5 x6 x7 x8 x9:Value} {w':World} {g:Nat} {c0 c1 d0 d1:Value} (h:DF w l0 l1 l2 true l4 l5 true l7 true l9 l10 x1 x2 x3 x4 x5 x6 x7 x8 x9 w') (hx:x2 = .pointer (some ⟨g,0,none⟩)) (hg0:w.heap.size≤g) (hg:w'.heap[g]?=some (.cells #[c0,c1] 30 (0,0))) (h9:x9 = .agg #[d0,d1]) :
  DF w l0 l1 l2 true l4 l5 true l7 true l9 true x1 x2 x3 x4 x5 x6 x7 x8 x9 ((w'.setCell ⟨g,0,none⟩ d0).setCell ⟨g,1,none⟩ d1):=by
 obtain ⟨h1,h2,h3,h4⟩:=h
 have q1:=setCell_at (i:=0) (u:=d0) hg
 have q2:=setCell_at (i:=1) (u:=d1) q1
 have mv:∀ (k:Nat) (cs:Array Value) (t:TypeId),t≠30→w'.heap[k]?=some (Obj.cells cs t (0,0))→((w'.setCell ⟨g,0,none⟩ d0).setCell ⟨g,1,none⟩ d1).heap[k]?=some (Obj.cells cs t (0,0)):=fun k cs t ht hk =>
  other_block q1 (other_block hg hk (Ne.symm ht) rfl) (Ne.symm ht) rfl
 refine ⟨(h1.setCell hg0 _).setCell hg0 _,?_,?_,.inr ⟨rfl,d0,d1,⟨g,hx,hg0,by simpa using q2⟩,fun _=>h9⟩⟩
 ·rcases h2 with ⟨a,-⟩ | ⟨a,b,c,d,vb,vc,pad,pcap,h,e7,e4,e4',e5,e5',e6,-⟩
  ·cases a
  ·exact .inr ⟨a,b,c,d,vb,vc,pad,pcap,h.move (fun k cs t ht hk=>mv k cs t (by rcases ht with rfl | rfl <;> decide) hk),e7,e4,e4',e5,e5',e6,(fun h=>by cases h)⟩
 ·rcases h3 with h3 | ⟨q,b0,b1,b2,⟨k,hk1,hk2,hk3⟩,r⟩
  ·exact .inl h3
  ·exact .inr ⟨q,b0,b1,b2,⟨k,hk1,hk2,mv k _ 27 (by decide) hk3⟩,r⟩
theorem zeros_made (w:World):IntSl (w.alloc (.cells #[.int .i64 0,.int .i64 0,.int .i64 0,.int .i64 0,.int .i64 0,.int .i64 0,.int .i64 0,.int .i64 0] 3)) zeros8 (.slice (some ⟨w.heap.size,0,none⟩) 8 8):=by
 refine ⟨_,_,rfl,.inr ⟨w.heap.size,0,rfl,fun j hj=>?_⟩⟩
 have:=(cells_of (l:=[.int .i64 0,.int .i64 0,.int .i64 0,.int .i64 0,.int .i64 0,.int .i64 0,.int .i64 0,.int .i64 0]) (heap_alloc_new w (.cells #[.int .i64 0,.int .i64 0,.int .i64 0,.int .i64 0,.int .i64 0,.int .i64 0,.int .i64 0,.int .i64 0] 3))).1 j (.int .i64 (zeros8.getD j 0))
 rw [Nat.zero_add]
 apply this
 have hj':j<8:=hj
 have:j=0∨j=1∨j=2∨j=3∨j=4∨j=5∨j=6∨j=7:=by omega
 rcases this with rfl | rfl | rfl | rfl | rfl | rfl | rfl | rfl <;> rfl
theorem fives_made (w:World):IntSl (w.alloc (.cells #[.int .i64 5,.int .i64 0,.int .i64 0,.int .i64 0] 3)) fives4 (.slice (some ⟨w.heap.size,0,none⟩) 4 4):=by
 refine ⟨_,_,rfl,.inr ⟨w.heap.size,0,rfl,fun j hj=>?_⟩⟩
 have:=(cells_of (l:=[.int .i64 5,.int .i64 0,.int .i64 0,.int .i64 0]) (heap_alloc_new w (.cells #[.int .i64 5,.int .i64 0,.int .i64 0,.int .i64 0] 3))).1 j (.int .i64 (fives4.getD j 0))
 rw [Nat.zero_add]
 apply this
 have hj':j<4:=hj
 have:j=0∨j=1∨j=2∨j=3:=by omega
 rcases this with rfl | rfl | rfl | rfl <;> rfl
theorem puts_made (w:World):PutSl (w.alloc (.cells #[.int .i64 1,.int .i64 30] 43)) doneP (.slice (some ⟨w.heap.size,0,none⟩) 1 1):=by
 refine ⟨_,_,rfl,.inr ⟨w.heap.size,0,rfl,fun j hj=>?_⟩⟩
 have h:=(cells_of (l:=[.int .i64 1,.int .i64 30]) (heap_alloc_new w (.cells #[.int .i64 1,.int .i64 30] 43))).1
 have hj':j<1:=hj
 have:j=0:=by omega
 subst this
 exact ⟨h 0 _ rfl,h 1 _ rfl⟩
set_option maxRecDepth 20000 in
set_option maxHeartbeats 4000000 in
theorem imageW_any (w:World):Calls Tryd.prog 20 #[] w fun r w'=>(∃ ad c,r = .returned (.slice ad imageL.length c)∧InSl w' imageL (.slice ad imageL.length c)∧(ad=none→imageL.length=0∧c=0))∧Below w.heap.size w w':=by
 go_enter Tryd.func20,Tryd.ntmps20
 go_wp2_with fail
 go_ret
 refine ⟨⟨_,_,rfl,?_,fun e=>by cases e⟩,below_new _ _⟩
 refine ⟨_,_,rfl,.inr ⟨w.heap.size,0,rfl,fun j hj=>?_⟩⟩
 have h:=(cells_of (l:=insVs imageL) (heap_alloc_new w (.cells (insVs imageL).toArray 35))).1
 obtain ⟨a0,a1,a2⟩:=insVs_at imageL j hj
 rw [Nat.zero_add]
 exact ⟨h _ _ a0,h _ _ a1,h _ _ a2⟩
theorem run_own (w:World) (v:Value) (k m:Nat) (hr:KindsIn w) (hb:BodyAt w v) (hv:IntSl w zeros8 (.slice (some ⟨k,0,none⟩) 8 8)) (hi:IntSl w fives4 (.slice (some ⟨m,0,none⟩) 4 4)) :
  Calls Tryd.prog 13 #[v,.slice (some ⟨k,0,none⟩) 8 8,.slice (some ⟨m,0,none⟩) 4 4] w fun r w'=>∃ vb vc pad pcap,r = .returned (.tuple #[endV vb vc pad pcap,okV])∧RanAt w' vb vc pad pcap∧Below w.heap.size w w':=by
 obtain ⟨ad,c,rfl,h1,h2⟩:=hb
 refine (Run_is w imageL ad c _ _ 8 4 zeros8 fives4 hr h1 h2 hv hi).mono fun r w' h=>?_
 obtain ⟨hbw,u,q,he,hu,ho,-⟩:=h
 rw [res_image] at he hu ho
 obtain ⟨vb,vc,rfl,hvb,-⟩:=VB.of_owns hu rfl
 obtain ⟨pad,pcap,rfl⟩:=owns_value ho
 exact ⟨vb,vc,pad,pcap,he,⟨hvb,_,ho⟩,hbw⟩
end Go.Proofs.YtnkgbkkakokciacDoor
namespace Go.Proofs.YtnkgbkkakokciacDoor.B
open Go.ChangeShapes Go.WideShapes Go.ChangeAt Go.RowKit
def imageL:List Io:=[⟨13,0,2⟩,⟨2,0,0⟩,⟨9,0,0⟩,⟨4,0,0⟩,⟨3,0,0⟩,⟨14,0,1⟩,⟨2,0,0⟩,⟨1,2,0⟩,⟨6,0,0⟩,⟨10,1,0⟩]
def cellVs:List Io→List Value
 | []=>[]
 | x::t=>.int .i64 x.op :: .int .i64 x.a :: .int .i64 x.b::cellVs t
theorem cellVs_at:∀ (l:List Io) (j:Nat),j<l.length→(cellVs l)[j*3]?=some (.int .i64 (l.getD j in0).op)∧(cellVs l)[j*3+1]?=some (.int .i64 (l.getD j in0).a)∧(cellVs l)[j*3+2]?=some (.int .i64 (l.getD j in0).b)
 | [],j,h=>by simp at h
 | x::t,0,_=>⟨rfl,rfl,rfl⟩
 | x::t,j+1,h=>by
  have:=cellVs_at t j (by simpa using h)
  rw [cellVs,show (j+1)*3=j*3+1+1+1 by omega,show j*3+1+1+1+1=(j*3+1)+1+1+1 by omega,show j*3+1+1+1+2=(j*3+2)+1+1+1 by omega]
  simpa using this
set_option maxRecDepth 20000 in
set_option maxHeartbeats 4000000 in
theorem image_any (w:World):Calls Tryd.prog 20 #[] w fun r w'=>∃ b,r = .returned (.slice (some ⟨b,0,none⟩) imageL.length 10)∧InSl w' imageL (.slice (some ⟨b,0,none⟩) imageL.length 10)∧Below w.heap.size w w':=by
 go_enter Tryd.func20,Tryd.ntmps20
 go_wp2_with fail
 go_ret
 refine ⟨_,rfl,?_,below_new _ _⟩
 refine ⟨_,_,rfl,.inr ⟨w.heap.size,0,rfl,fun j hj=>?_⟩⟩
 have h:=(cells_of (l:=cellVs imageL) (heap_alloc_new w (.cells (cellVs imageL).toArray 35))).1
 obtain ⟨a0,a1,a2⟩:=cellVs_at imageL j hj
 rw [Nat.zero_add]
 exact ⟨h _ _ a0,h _ _ a1,h _ _ a2⟩
theorem InSl.at {w:World} {l:List Io} {ad:Option Addr} {n c j:Nat} (h:InSl w l (.slice ad n c)) (hj:j<l.length):∃ b o,ad=some ⟨b,o,none⟩∧w.cell? ⟨b,o+j*3,none⟩=some (.int .i64 (l.getD j in0).op)∧w.cell? ⟨b,o+j*3+1,none⟩=some (.int .i64 (l.getD j in0).a)∧w.cell? ⟨b,o+j*3+2,none⟩=some (.int .i64 (l.getD j in0).b):=by
 obtain ⟨ad',c',e,h | ⟨b,o,h1,h2⟩⟩:=h
 ·rw [h] at hj;simp at hj
 ·simp only [Value.slice.injEq] at e
  exact ⟨b,o,e.1.trans h1,h2 j hj⟩
set_option maxRecDepth 20000 in
set_option maxHeartbeats 400000 in
theorem SameN_any (w:World) (l:List Io) (ad ad':Option Addr) (c c':Nat) (hl:l.length≤100000) (h:InSl w l (.slice ad l.length c)) (h':InSl w l (.slice ad' l.length c')) :
  Calls Tryd.prog 32 #[.slice ad l.length c,.slice ad' l.length c'] w fun r w'=>r = .returned (.bool true)∧Below w.heap.size w w':=by
 have HR:Hid (InSl w l (.slice ad l.length c)∧InSl w l (.slice ad' l.length c')):=⟨h,h'⟩
 clear h h'
 go_enter Tryd.func32,Tryd.ntmps32
 go_wp2_with fail
 go_loopw [13] (fun x wr=>∃ j:Nat,j≤l.length∧x = .int .i64 j∧Below w.heap.size w wr) (fun x _=>l.length - (intOf x).toNat)
 case atStart=>exact ⟨0,Nat.zero_le _,rfl,Below.refl _ _⟩
 case round =>
  obtain ⟨j,hj,rfl,hb⟩:=hrel
  by_cases hlt:j<l.length
  ·obtain ⟨b,o,had,hrow⟩:=InSl.at HR.out.1 hlt
   obtain ⟨b',o',had',hrow'⟩:=InSl.at HR.out.2 hlt
   subst had had'
   obtain ⟨q0,q1,q2⟩:=hrow
   obtain ⟨p0,p1,p2⟩:=hrow'
   have q0:=below_cell hb q0
   have q1:=below_cell hb q1
   have q2:=below_cell hb q2
   have p0:=below_cell hb p0
   have p1:=below_cell hb p1
   have p2:=below_cell hb p2
   generalize l.getD j in0=z at *
   have HB:Hid (Below w.heap.size w wr):=hb
   clear hb
   go_wp2_with fail
   go_region
   go_wp2_with fail
   go_roundw
   case rel=>exact ⟨j+1,by omega,by go_num,HB.out.drew⟩
   case measure=>simp [intOf];omega
  ·have hje:j=l.length:=by omega
   subst hje
   go_wp2_with fail
   go_ret
   exact ⟨rfl,hb⟩
end Go.Proofs.YtnkgbkkakokciacDoor.B
