import Derived.Test.YtnkgbkkakokciacDoorGBWorth
import Derived.Test.YtnkgbkkakokciacDoorGBState
import Derived.Test.YtnkgbkkakokciacDoorGBStepA
import Derived.Test.YtnkgbkkakokciacDoorGMDoA
import Derived.Test.YtnkgbkkakokciacDoorGMDoC
import Derived.Test.YtnkgbkkakokciacDoorGMDoD
import Derived.Test.YtnkgbkkakokciacDoorGMDoF
import Derived.Test.YtnkgbkkakokciacDoorGMDoG
import Derived.Test.YtnkgbkkakokciacDoorGMCost
import Derived.Test.YtnkgbkkakokciacDoorGAny
import Derived.Lib.SliceRun
import Derived.OwnWalk
namespace Go.Proofs.YtnkgbkkakokciacDoor.B
theorem err_lay (k n:Int) (a:List Ex) (h:(Ex.mk k n a).err=0):((k=1∨k=2∨k=3)∧a=[])∨((k=4∨k=5∨k=6∨k=7)∧n=0):=by
 unfold Ex.err at h
 by_cases h1:((Ex.mk k n a).a.length:Int)≠arity (Ex.mk k n a).k
 ·rw [if_pos h1] at h;omega
 rw [if_neg h1] at h
 by_cases h2:(Ex.mk k n a).n<0∨(Ex.mk k n a).n > mostN (Ex.mk k n a).k
 ·rw [if_pos h2] at h;omega
 have h1':(a.length:Int)=arity k:=by simpa [Ex.a,Ex.k] using h1
 have h2':¬ (n<0∨n > mostN k):=h2
 unfold arity at h1'
 unfold mostN at h2'
 by_cases k1:k=1∨k=2∨k=3
 ·rw [if_pos k1] at h1'
  exact .inl ⟨k1,by simpa using h1'⟩
 rw [if_neg (by omega),if_neg (by omega),if_neg (by omega)] at h2'
 rw [if_neg k1] at h1'
 by_cases k4:k=4∨k=5∨k=6∨k=7
 ·exact .inr ⟨k4,by omega⟩
 ·rw [if_neg (by omega),if_neg (by omega)] at h1'
  omega
mutual
theorem Ex.node_lay:∀ (e:Ex) (c:Nat),(e.node c).1=0→e.Lay∧(e.node c).2=c+e.nodes
 | .mk k n a,c,h=>by
  unfold Ex.node at h ⊢
  by_cases h30:30<c+1
  ·rw [if_pos h30] at h;simp at h
  rw [if_neg h30] at h ⊢
  by_cases hE:(Ex.mk k n a).err≠0
  ·rw [if_pos hE] at h;exact absurd h hE
  rw [if_neg hE] at h ⊢
  obtain ⟨q1,q2⟩:=Ex.nodeAll_lay a (c+1) h
  rw [Ex.Lay,Ex.nodes]
  exact ⟨⟨err_lay k n a (by simpa using hE),q1⟩,by omega⟩
theorem Ex.nodeAll_lay:∀ (a:List Ex) (c:Nat),(Ex.nodeAll a c).1=0→Ex.LayAll a∧(Ex.nodeAll a c).2=c+Ex.nodesAll a
 | [],c,_=>⟨trivial,rfl⟩
 | x::r,c,h=>by
  unfold Ex.nodeAll at h ⊢
  by_cases hx:(x.node c).1≠0
  ·rw [if_pos hx] at h;exact absurd h hx
  rw [if_neg hx] at h ⊢
  obtain ⟨p1,p2⟩:=Ex.node_lay x c (by simpa using hx)
  obtain ⟨q1,q2⟩:=Ex.nodeAll_lay r _ h
  rw [Ex.nodesAll]
  exact ⟨⟨p1,q1⟩,by omega⟩
end
theorem node_small {e:Ex} (h:(e.node 0).1=0):e.Lay∧e.nodes≤30:=by
 obtain ⟨h1,h2⟩:=Ex.node_lay e 0 h
 have:=Ex.node_le e 0 h
 exact ⟨h1,by omega⟩
theorem none_small {e:Ex} (h:exNone e.k e.n e.a.length=true):e.nodes≤30:=by
 obtain ⟨k,n,a⟩:=e
 simp [exNone,Ex.a] at h
 rw [Ex.nodes,h.2,Ex.nodesAll]
 omega
theorem cond_lay (ck:Int) (ca cb:Ex) (h:condErr ck ca cb=0):((1≤ck∧ck≤4)∧ca.Lay∧cb.Lay)∧ca.nodes≤30∧cb.nodes≤30:=by
 unfold condErr at h
 by_cases h1:ck<1∨4<ck
 ·rw [if_pos h1] at h;omega
 rw [if_neg h1] at h
 by_cases h2:(ca.node 0).1≠0
 ·rw [if_pos h2] at h;exact absurd h h2
 rw [if_neg h2] at h
 have p:=node_small (e:=ca) (by simpa using h2)
 have q:=node_small (e:=cb) h
 exact ⟨⟨by omega,p.1,q.1⟩,p.2,q.2⟩
theorem prog_lay (k n:Int) (eN:Bool) (nE ck:Int) (aN bN:Bool) (nC:Int) (ly ll:Nat) (d:Int) (lk:Bool) (h:progErr k n eN nE ck aN bN nC ly ll d lk=0) :
  (1≤k∧k≤7)∧(lowN k≤n∧n≤highN k)∧(valK k=true→nE=0)∧(conK k=true→nC=0)∧(valK k=false→eN=true)∧(conK k=false→aN=true∧bN=true):=by
 unfold progErr at h
 by_cases h1:k<1∨8≤k
 ·rw [if_pos h1] at h;omega
 rw [if_neg h1] at h
 by_cases h2:¬ (lowN k≤n∧n≤highN k)
 ·rw [if_pos h2] at h;omega
 rw [if_neg h2] at h
 by_cases h3:moreS (valK k) (conK k) (innK k) (othK k) eN ck aN bN ly ll=true
 ·rw [if_pos h3] at h;omega
 rw [if_neg h3] at h
 by_cases h4:valK k=true∧nE≠0
 ·rw [if_pos h4] at h;exact absurd h h4.2
 rw [if_neg h4] at h
 by_cases h5:conK k=true∧nC≠0
 ·rw [if_pos h5] at h;exact absurd h h5.2
 refine ⟨by omega,by simpa using h2,fun hv=>?_,fun hv=>?_,fun hv=>?_,fun hv=>?_⟩
 ·by_cases hz:nE=0
  ·exact hz
  ·exact absurd ⟨hv,hz⟩ h4
 ·by_cases hz:nC=0
  ·exact hz
  ·exact absurd ⟨hv,hz⟩ h5
 ·unfold moreS at h3
  rw [hv] at h3
  rcases eN with _ | _
  ·simp at h3
  ·rfl
 ·unfold moreS at h3
  rw [hv] at h3
  rcases aN with _ | _ <;> rcases bN with _ | _ <;> simp at h3 ⊢
mutual
theorem St.chk_lay:∀ (x:St) (ar:List (Int × Int)) (i:Int),(x.chk ar i).1=0→x.Lay∧x.bulk≤91*x.count
 | .mk k n e ck ca cb b l,ar,i,h=>by
  unfold St.chk at h
  by_cases h1:(St.mk k n e ck ca cb b l).perr ar≠0
  ·rw [if_pos h1] at h;exact absurd h h1
  rw [if_neg h1] at h
  by_cases h2:(St.chkAll b (ar++[(k,n)]) (i+1)).1≠0
  ·rw [if_pos h2] at h;exact absurd h h2
  rw [if_neg h2] at h
  have hp:progErr k n (exNone e.k e.n e.a.length) (e.node 0).1 ck (exNone ca.k ca.n ca.a.length) (exNone cb.k cb.n cb.a.length) (condErr ck ca cb) b.length l.length ar.length (decide ((6,n) ∈ ar))=0:=by simpa [St.perr] using h1
  obtain ⟨g1,g2,g3,g4,g5,g6⟩:=prog_lay _ _ _ _ _ _ _ _ _ _ _ _ hp
  obtain ⟨b1,b2⟩:=St.chkAll_lay b _ _ (by simpa using h2)
  obtain ⟨l1,l2⟩:=St.chkAll_lay l _ _ h
  have he:((k=1∨k=2)→e.Lay)∧e.nodes≤30:=by
   by_cases hv:k=1∨k=2
   ·have:=node_small (g3 (by simpa [valK] using hv))
    exact ⟨fun _=>this.1,this.2⟩
   ·exact ⟨fun h=>absurd h hv,none_small (g5 (by simpa [valK] using hv))⟩
  have hc:((k=3∨k=5)→(1≤ck∧ck≤4)∧ca.Lay∧cb.Lay)∧ca.nodes≤30∧cb.nodes≤30:=by
   by_cases hv:k=3∨k=5
   ·have:=cond_lay ck ca cb (g4 (by simpa [conK] using hv))
    exact ⟨fun _=>this.1,this.2⟩
   ·have:=g6 (by simpa [conK] using hv)
    exact ⟨fun h=>absurd h hv,none_small this.1,none_small this.2⟩
  rw [St.Lay,St.bulk,St.count]
  refine ⟨⟨g1,he.1,hc.1,fun hk=>?_,b1,l1⟩,by omega⟩
  rcases hk with rfl | rfl <;> (simp [lowN,highN] at g2;exact g2)
theorem St.chkAll_lay:∀ (a:List St) (ar:List (Int × Int)) (i:Int),(St.chkAll a ar i).1=0→St.LayAll a∧St.bulkAll a≤91*St.countAll a
 | [],ar,i,_=>⟨trivial,Nat.zero_le _⟩
 | x::r,ar,i,h=>by
  unfold St.chkAll at h
  by_cases hx:(x.chk ar i).1≠0
  ·rw [if_pos hx] at h;exact absurd h hx
  rw [if_neg hx] at h
  obtain ⟨p1,p2⟩:=St.chk_lay x ar i (by simpa using hx)
  obtain ⟨q1,q2⟩:=St.chkAll_lay r _ _ h
  rw [St.bulkAll,St.countAll]
  exact ⟨⟨p1,q1⟩,by omega⟩
end
theorem checkV_lay {a:List St} {cy:Int} (h:checkV a = .agg #[.int .i64 0,.int .i64 cy]):cy=0∧St.LayAll a∧St.bulkAll a≤18200:=by
 unfold checkV at h
 by_cases hn:200<St.countAll a
 ·rw [if_pos hn] at h
  simp at h
 ·rw [if_neg hn] at h
  simp at h
  obtain ⟨h1,h2⟩:=h
  rw [chk_body] at h1 h2
  by_cases hx:(St.chkAll a [] (-1)).1≠0
  ·rw [if_pos hx] at h1;exact absurd h1 hx
  ·rw [if_neg hx] at h2
   obtain ⟨q1,q2⟩:=St.chkAll_lay a [] (-1) (by simpa using hx)
   exact ⟨h2.symm,q1,by omega⟩
def imF (a:List St) (cx cy:Int):(Int × Int) × List Io:=if cx=0 then (if 2000<(St.pcAll a 0).length then ((2,0),[]) else ((0,0),St.pcAll a 0)) else ((cx,cy),[])
end Go.Proofs.YtnkgbkkakokciacDoor.B
namespace Go.Proofs.YtnkgbkkakokciacDoor.B
open Go.ChangeShapes Go.WideShapes Go.ChangeAt Go.RowKit
set_option maxRecDepth 20000 in
set_option maxHeartbeats 4000000 in
theorem loop_4 (w0 w:World) (rb vb B vc nb nc:Nat) (iv pv:Value) (L:List Nd) (is:List Int) (s:Ms) (at_:Nat) (hh:Here w0 w rb vb B vc nb nc iv pv L is s) (hA:at_<L.length) (hL:L.length≤2097152) (m:Nat) (hm:m≤1000) (b:List St) (yad:Option Addr) (yc:Nat) (N:Nat) (hP:ListP w0 rb vb B vc nb nc iv L is N) (hbN:St.bulkAll b≤N) (hok:St.OkAll b) (hsub:Sub L b (at_+1))
  (c0:w.cell? ⟨nb,at_*16,none⟩=some (.int .i64 4)) (c1:w.cell? ⟨nb,at_*16+1,none⟩=some (.int .i64 (m:Nat))) (c12:w.cell? ⟨nb,at_*16+12,none⟩=some (.slice yad b.length yc)) (c15:w.cell? ⟨nb,at_*16+15,none⟩=some (.int .i64 ((at_+1+St.countAll b:Nat):Int))) :
  Calls Tryd.prog 150 #[.pointer (some ⟨rb,0,none⟩),.int .i64 at_] w (RunPost rb vb B vc iv (.slice (some ⟨nb,0,none⟩) L.length nc) w pv (again (fun _=>true) (fun s=>St.runAll is b (at_+1) s) m s)):=by
 obtain ⟨r0,r1,r2,r3,r4,rf,rl⟩:=hh.rn.cells
 have hsl:=hsub.le
 have HP:Hid (ListP w0 rb vb B vc nb nc iv L is N∧St.OkAll b∧Sub L b (at_+1)∧Here w0 w rb vb B vc nb nc iv pv L is s):=⟨hP,hok,hsub,hh⟩
 have HNO:Hid (some nb≠pv.ownBlock):=fun e=>by have:=(hh.rn.own_lt nb e.symm).1;have:=hh.nB;omega
 clear hP hok hsub hh
 by_cases hb0:b=[]
 ·subst hb0
  rw [again_nil]
  go_enter Tryd.func150,Tryd.ntmps150
  go_wp2_with fail
  first | go_end0 | refine bodyPost_ret (results_none rfl _ _ _) rfl ?_
  exact ⟨rfl,pv,HP.out.2.2.2.rn,RR.refl _ _ _ _⟩
 have hbl:((b.length:Int) == 0)=false:=by
  have:=List.length_pos_iff.2 hb0
  simp;omega
 clear hb0
 have HD:Hid (w.cell? ⟨nb,at_*16,none⟩=some (.int .i64 4)∧w.cell? ⟨nb,at_*16+1,none⟩=some (.int .i64 (m:Nat))∧w.cell? ⟨nb,at_*16+12,none⟩=some (.slice yad b.length yc)∧w.cell? ⟨nb,at_*16+15,none⟩=some (.int .i64 ((at_+1+St.countAll b:Nat):Int))):=⟨c0,c1,c12,c15⟩
 go_enter Tryd.func150,Tryd.ntmps150
 go_wp2_with fail
 clear c0 c1 c12 c15 r0 r1 r2 r3 r4 rf rl
 go_loopw [23] (fun x wr=>∃ (j:Nat) (pv':Value) (s':Ms),j≤m∧x = .int .i64 j∧Here w0 wr rb vb B vc nb nc iv pv' L is s'∧RR rb vb w wr pv pv'∧loopRest (fun _=>true) (fun s=>St.runAll is b (at_+1) s) (m - j) (s',none)=again (fun _=>true) (fun s=>St.runAll is b (at_+1) s) m s) (fun x _=>m - (intOf x).toNat)
 case atStart=>exact ⟨0,pv,s,Nat.zero_le _,rfl,HP.out.2.2.2,RR.refl _ _ _ _,rfl⟩
 case round =>
  obtain ⟨j,pv',s',hj,rfl,hk,hrr,hrest⟩:=hrel
  obtain ⟨c0,c1,c12,c15⟩:=HD.out
  have g0:=hrr.cell hk.nr hk.nv HNO.out c0
  have g1:=hrr.cell hk.nr hk.nv HNO.out c1
  have g12:=hrr.cell hk.nr hk.nv HNO.out c12
  have g15:=hrr.cell hk.nr hk.nv HNO.out c15
  obtain ⟨r0,r1,r2,r3,r4,rf,rl⟩:=hk.rn.cells
  have HI:Hid (Here w0 wr rb vb B vc nb nc iv pv' L is s'∧RR rb vb w wr pv pv'∧loopRest (fun _=>true) (fun s=>St.runAll is b (at_+1) s) (m - j) (s',none)=again (fun _=>true) (fun s=>St.runAll is b (at_+1) s) m s):=⟨hk,hrr,hrest⟩
  clear c0 c1 c12 c15 hk hrr hrest
  by_cases hlt:j<m
  ·have hdj:decide ((j:Int)<(m:Int))=true:=decide_eq_true (by omega)
   rcases hz:St.runAll is b (at_+1) s' with ⟨s3,_ | z⟩
   ·have HZ:Hid (_=_):=hz
    have HKP:Hid (s3.steps≤20000∧s3.puts.length≤s3.steps):=by
     have h1:=(St.runAll_keep is b (at_+1) s' HI.out.1.rn.vars.1).2.1 HI.out.1.st
     have h2:=St.runAll_puts is b (at_+1) s' HI.out.1.pt
     rw [hz] at h1 h2
     exact ⟨h1,h2⟩
    clear hz
    go_wp2_with (go_at_call 108;refine (HP.out.1 b _ pv' s' (at_+1) hbN HP.out.2.1 HP.out.2.2.1 HI.out.1).mono ?_;intro r w3 hpost;unfold RunPost at hpost;rw [HZ.out] at hpost;obtain ⟨rfl,pv3,hk3,hr3⟩:=hpost;have H3:Hid (Here w0 w3 rb vb B vc nb nc iv pv3 L is s3∧_):=⟨HI.out.1.next hk3 hr3 HKP.out.1 HKP.out.2 HI.out.1.nl,hr3⟩;clear hk3 hr3)
    go_roundw
    case rel =>
     refine ⟨j+1,pv3,s3,by omega,by go_num,H3.out.1,HI.out.2.1.trans (H3.out.2),?_⟩
     rw [← HI.out.2.2,show m - j=(m - (j+1))+1 by omega,loopRest_step (rfl),HZ.out]
    case measure=>simp [intOf];omega
   ·have HZ:Hid (_=_):=hz
    clear hz
    have HF:Hid ((s3,some z)=again (fun _=>true) (fun s=>St.runAll is b (at_+1) s) m s):=by
     show (s3,some z)=again (fun _=>true) (fun s=>St.runAll is b (at_+1) s) m s
     rw [← HI.out.2.2,show m - j=(m - (j+1))+1 by omega,loopRest_step (rfl),HZ.out]
     rfl
    go_wp2_with (go_at_call 108;refine (HP.out.1 b _ pv' s' (at_+1) hbN HP.out.2.1 HP.out.2.2.1 HI.out.1).mono ?_;intro r w3 hpost;unfold RunPost at hpost;rw [HZ.out] at hpost;obtain ⟨rfl,pv3,hr3⟩:=hpost;have H3:Hid _:=hr3;clear hr3)
    refine ⟨rfl,?_⟩
    rw [← HF.out]
    exact ⟨rfl,pv3,HI.out.2.1.trans (H3.out)⟩
  ·have hje:j=m:=by omega
   subst hje
   have HF:Hid ((s',none)=again (fun _=>true) (fun s=>St.runAll is b (at_+1) s) j s):=by
    show (s',none)=again (fun _=>true) (fun s=>St.runAll is b (at_+1) s) j s
    rw [← HI.out.2.2,Nat.sub_self,loopRest_zero]
   go_wp2_with fail
   first | go_end0 | refine bodyPost_ret (results_none rfl _ _ _) rfl ?_
   rw [← HF.out]
   exact ⟨rfl,pv',HI.out.1.rn,HI.out.2.1⟩
set_option maxRecDepth 20000 in
set_option maxHeartbeats 4000000 in
theorem loop_5 (w0 w:World) (rb vb B vc nb nc:Nat) (iv pv:Value) (L:List Nd) (is:List Int) (s:Ms) (at_:Nat) (hh:Here w0 w rb vb B vc nb nc iv pv L is s) (hA:at_<L.length) (hL:L.length≤2097152) (m:Nat) (hm:m≤1000) (b:List St) (yad:Option Addr) (yc:Nat) (ck ak an bk bn:Int) (aad bad:Option Addr) (am ac bm bc:Nat) (ca cb:Ex) (hck:1≤ck∧ck≤4) (hna:ca.nodes≤1048576) (hnb:cb.nodes≤1048576) (hoka:ca.Ok) (hokb:cb.Ok) (hca:ca.In w0 (.agg #[.int .i64 ak,.int .i64 an,.slice aad am ac])) (hcb:cb.In w0 (.agg #[.int .i64 bk,.int .i64 bn,.slice bad bm bc])) (N:Nat) (hP:ListP w0 rb vb B vc nb nc iv L is N) (hbN:St.bulkAll b≤N) (hok:St.OkAll b) (hsub:Sub L b (at_+1))
  (c0:w.cell? ⟨nb,at_*16,none⟩=some (.int .i64 5)) (c1:w.cell? ⟨nb,at_*16+1,none⟩=some (.int .i64 (m:Nat))) (c5:w.cell? ⟨nb,at_*16+5,none⟩=some (.int .i64 ck)) (c6:w.cell? ⟨nb,at_*16+6,none⟩=some (.int .i64 ak)) (c7:w.cell? ⟨nb,at_*16+7,none⟩=some (.int .i64 an)) (c8:w.cell? ⟨nb,at_*16+8,none⟩=some (.slice aad am ac)) (c9:w.cell? ⟨nb,at_*16+9,none⟩=some (.int .i64 bk)) (c10:w.cell? ⟨nb,at_*16+10,none⟩=some (.int .i64 bn)) (c11:w.cell? ⟨nb,at_*16+11,none⟩=some (.slice bad bm bc)) (c12:w.cell? ⟨nb,at_*16+12,none⟩=some (.slice yad b.length yc)) (c15:w.cell? ⟨nb,at_*16+15,none⟩=some (.int .i64 ((at_+1+St.countAll b:Nat):Int))) :
  Calls Tryd.prog 150 #[.pointer (some ⟨rb,0,none⟩),.int .i64 at_] w (RunPost rb vb B vc iv (.slice (some ⟨nb,0,none⟩) L.length nc) w pv (again (condOf is ck ca cb) (fun s=>St.runAll is b (at_+1) s) m s)):=by
 obtain ⟨r0,r1,r2,r3,r4,rf,rl⟩:=hh.rn.cells
 have hsl:=hsub.le
 have HP:Hid (ListP w0 rb vb B vc nb nc iv L is N∧St.OkAll b∧Sub L b (at_+1)∧Here w0 w rb vb B vc nb nc iv pv L is s∧ca.Ok∧cb.Ok∧ca.In w0 (.agg #[.int .i64 ak,.int .i64 an,.slice aad am ac])∧cb.In w0 (.agg #[.int .i64 bk,.int .i64 bn,.slice bad bm bc])):=⟨hP,hok,hsub,hh,hoka,hokb,hca,hcb⟩
 have HNO:Hid (some nb≠pv.ownBlock):=fun e=>by have:=(hh.rn.own_lt nb e.symm).1;have:=hh.nB;omega
 clear hP hok hsub hh hoka hokb hca hcb
 by_cases hb0:b=[]
 ·subst hb0
  rw [again_nil]
  go_enter Tryd.func150,Tryd.ntmps150
  go_wp2_with fail
  first | go_end0 | refine bodyPost_ret (results_none rfl _ _ _) rfl ?_
  exact ⟨rfl,pv,HP.out.2.2.2.1.rn,RR.refl _ _ _ _⟩
 have hbl:((b.length:Int) == 0)=false:=by
  have:=List.length_pos_iff.2 hb0
  simp;omega
 clear hb0
 have HD:Hid (w.cell? ⟨nb,at_*16,none⟩=some (.int .i64 5)∧w.cell? ⟨nb,at_*16+1,none⟩=some (.int .i64 (m:Nat))∧w.cell? ⟨nb,at_*16+5,none⟩=some (.int .i64 ck)∧w.cell? ⟨nb,at_*16+6,none⟩=some (.int .i64 ak)∧w.cell? ⟨nb,at_*16+7,none⟩=some (.int .i64 an)∧w.cell? ⟨nb,at_*16+8,none⟩=some (.slice aad am ac)∧w.cell? ⟨nb,at_*16+9,none⟩=some (.int .i64 bk)∧w.cell? ⟨nb,at_*16+10,none⟩=some (.int .i64 bn)∧w.cell? ⟨nb,at_*16+11,none⟩=some (.slice bad bm bc)∧w.cell? ⟨nb,at_*16+12,none⟩=some (.slice yad b.length yc)∧w.cell? ⟨nb,at_*16+15,none⟩=some (.int .i64 ((at_+1+St.countAll b:Nat):Int))):=⟨c0,c1,c5,c6,c7,c8,c9,c10,c11,c12,c15⟩
 go_enter Tryd.func150,Tryd.ntmps150
 go_wp2_with fail
 clear c0 c1 c5 c6 c7 c8 c9 c10 c11 c12 c15 r0 r1 r2 r3 r4 rf rl
 go_loopw [23] (fun x wr=>∃ (j:Nat) (pv':Value) (s':Ms),j≤m∧x = .int .i64 j∧Here w0 wr rb vb B vc nb nc iv pv' L is s'∧RR rb vb w wr pv pv'∧loopRest (condOf is ck ca cb) (fun s=>St.runAll is b (at_+1) s) (m - j) (s',none)=again (condOf is ck ca cb) (fun s=>St.runAll is b (at_+1) s) m s) (fun x _=>m - (intOf x).toNat)
 case atStart=>exact ⟨0,pv,s,Nat.zero_le _,rfl,HP.out.2.2.2.1,RR.refl _ _ _ _,rfl⟩
 case round =>
  obtain ⟨j,pv',s',hj,rfl,hk,hrr,hrest⟩:=hrel
  obtain ⟨c0,c1,c5,c6,c7,c8,c9,c10,c11,c12,c15⟩:=HD.out
  have g0:=hrr.cell hk.nr hk.nv HNO.out c0
  have g1:=hrr.cell hk.nr hk.nv HNO.out c1
  have g5:=hrr.cell hk.nr hk.nv HNO.out c5
  have g6:=hrr.cell hk.nr hk.nv HNO.out c6
  have g7:=hrr.cell hk.nr hk.nv HNO.out c7
  have g8:=hrr.cell hk.nr hk.nv HNO.out c8
  have g9:=hrr.cell hk.nr hk.nv HNO.out c9
  have g10:=hrr.cell hk.nr hk.nv HNO.out c10
  have g11:=hrr.cell hk.nr hk.nv HNO.out c11
  have g12:=hrr.cell hk.nr hk.nv HNO.out c12
  have g15:=hrr.cell hk.nr hk.nv HNO.out c15
  obtain ⟨r0,r1,r2,r3,r4,rf,rl⟩:=hk.rn.cells
  have HI:Hid (Here w0 wr rb vb B vc nb nc iv pv' L is s'∧RR rb vb w wr pv pv'∧loopRest (condOf is ck ca cb) (fun s=>St.runAll is b (at_+1) s) (m - j) (s',none)=again (condOf is ck ca cb) (fun s=>St.runAll is b (at_+1) s) m s):=⟨hk,hrr,hrest⟩
  clear c0 c1 c5 c6 c7 c8 c9 c10 c11 c12 c15 hk hrr hrest
  by_cases hlt:j<m
  ·have hdj:decide ((j:Int)<(m:Int))=true:=decide_eq_true (by omega)
   cases hcv:condVal ck (ca.val s'.vars is) (cb.val s'.vars is)
   ·have HCV:Hid (condVal ck (ca.val s'.vars is) (cb.val s'.vars is)=false):=hcv
    clear hcv
    have HF:Hid ((s',none)=again (condOf is ck ca cb) (fun s=>St.runAll is b (at_+1) s) m s):=by
     show (s',none)=again (condOf is ck ca cb) (fun s=>St.runAll is b (at_+1) s) m s
     rw [← HI.out.2.2,loopRest_stop HCV.out]
    go_wp2_with (go_at_call 149;refine (holds_any rb s'.vars is ck ak an bk bn hck ca cb aad bad am ac bm bc _ hna hnb HP.out.2.2.2.2.1 HP.out.2.2.2.2.2.1 (HI.out.1.rn.val HI.out.1.ins HI.out.1.low) (HP.out.2.2.2.2.2.2.1.below HI.out.1.low) (HP.out.2.2.2.2.2.2.2.below HI.out.1.low)).mono ?_;rintro r w6 ⟨rfl,hb6⟩;rw [HCV.out];have g15b:=below_cell hb6 g15;have H6:Hid (Here w0 w6 rb vb B vc nb nc iv pv' L is s'∧Below wr.heap.size wr w6):=⟨HI.out.1.below hb6 HI.out.1.nl,hb6⟩;clear hb6)
    first | go_end0 | refine bodyPost_ret (results_none rfl _ _ _) rfl ?_
    rw [← HF.out]
    exact ⟨rfl,pv',H6.out.1.rn,HI.out.2.1.trans (RR.of_below H6.out.2)⟩
   ·have HCV:Hid (condVal ck (ca.val s'.vars is) (cb.val s'.vars is)=true):=hcv
    clear hcv
    rcases hz:St.runAll is b (at_+1) s' with ⟨s3,_ | z⟩
    ·have HZ:Hid (_=_):=hz
     have HKP:Hid (s3.steps≤20000∧s3.puts.length≤s3.steps):=by
      have h1:=(St.runAll_keep is b (at_+1) s' HI.out.1.rn.vars.1).2.1 HI.out.1.st
      have h2:=St.runAll_puts is b (at_+1) s' HI.out.1.pt
      rw [hz] at h1 h2
      exact ⟨h1,h2⟩
     clear hz
     go_wp2_with (first | (go_at_call 149;refine (holds_any rb s'.vars is ck ak an bk bn hck ca cb aad bad am ac bm bc _ hna hnb HP.out.2.2.2.2.1 HP.out.2.2.2.2.2.1 (HI.out.1.rn.val HI.out.1.ins HI.out.1.low) (HP.out.2.2.2.2.2.2.1.below HI.out.1.low) (HP.out.2.2.2.2.2.2.2.below HI.out.1.low)).mono ?_;rintro r w6 ⟨rfl,hb6⟩;rw [HCV.out];have g15b:=below_cell hb6 g15;have H6:Hid (Here w0 w6 rb vb B vc nb nc iv pv' L is s'∧Below wr.heap.size wr w6):=⟨HI.out.1.below hb6 HI.out.1.nl,hb6⟩;clear hb6) | (go_at_call 108;refine (HP.out.1 b _ pv' s' (at_+1) hbN HP.out.2.1 HP.out.2.2.1 H6.out.1).mono ?_;intro r w3 hpost;unfold RunPost at hpost;rw [HZ.out] at hpost;obtain ⟨rfl,pv3,hk3,hr3⟩:=hpost;have H3:Hid (Here w0 w3 rb vb B vc nb nc iv pv3 L is s3∧_):=⟨H6.out.1.next hk3 hr3 HKP.out.1 HKP.out.2 H6.out.1.nl,hr3⟩;clear hk3 hr3))
     go_roundw
     case rel =>
      refine ⟨j+1,pv3,s3,by omega,by go_num,H3.out.1,HI.out.2.1.trans ((RR.of_below H6.out.2).trans (H3.out.2)),?_⟩
      rw [← HI.out.2.2,show m - j=(m - (j+1))+1 by omega,loopRest_step (HCV.out),HZ.out]
     case measure=>simp [intOf];omega
    ·have HZ:Hid (_=_):=hz
     clear hz
     have HF:Hid ((s3,some z)=again (condOf is ck ca cb) (fun s=>St.runAll is b (at_+1) s) m s):=by
      show (s3,some z)=again (condOf is ck ca cb) (fun s=>St.runAll is b (at_+1) s) m s
      rw [← HI.out.2.2,show m - j=(m - (j+1))+1 by omega,loopRest_step (HCV.out),HZ.out]
      rfl
     go_wp2_with (first | (go_at_call 149;refine (holds_any rb s'.vars is ck ak an bk bn hck ca cb aad bad am ac bm bc _ hna hnb HP.out.2.2.2.2.1 HP.out.2.2.2.2.2.1 (HI.out.1.rn.val HI.out.1.ins HI.out.1.low) (HP.out.2.2.2.2.2.2.1.below HI.out.1.low) (HP.out.2.2.2.2.2.2.2.below HI.out.1.low)).mono ?_;rintro r w6 ⟨rfl,hb6⟩;rw [HCV.out];have g15b:=below_cell hb6 g15;have H6:Hid (Here w0 w6 rb vb B vc nb nc iv pv' L is s'∧Below wr.heap.size wr w6):=⟨HI.out.1.below hb6 HI.out.1.nl,hb6⟩;clear hb6) | (go_at_call 108;refine (HP.out.1 b _ pv' s' (at_+1) hbN HP.out.2.1 HP.out.2.2.1 H6.out.1).mono ?_;intro r w3 hpost;unfold RunPost at hpost;rw [HZ.out] at hpost;obtain ⟨rfl,pv3,hr3⟩:=hpost;have H3:Hid _:=hr3;clear hr3))
     refine ⟨rfl,?_⟩
     rw [← HF.out]
     exact ⟨rfl,pv3,HI.out.2.1.trans ((RR.of_below H6.out.2).trans (H3.out))⟩
  ·have hje:j=m:=by omega
   subst hje
   have HF:Hid ((s',none)=again (condOf is ck ca cb) (fun s=>St.runAll is b (at_+1) s) j s):=by
    show (s',none)=again (condOf is ck ca cb) (fun s=>St.runAll is b (at_+1) s) j s
    rw [← HI.out.2.2,Nat.sub_self,loopRest_zero]
   go_wp2_with fail
   first | go_end0 | refine bodyPost_ret (results_none rfl _ _ _) rfl ?_
   rw [← HF.out]
   exact ⟨rfl,pv',HI.out.1.rn,HI.out.2.1⟩
end Go.Proofs.YtnkgbkkakokciacDoor.B
namespace Go.Proofs.YtnkgbkkakokciacDoor
open Go.ChangeShapes Go.WideShapes Go.ChangeAt Go.RowKit
theorem do_any (w:World) (mb B:Nat) (l:List In) (iv ov:Value) (ins:List Int) (sp:Int) (s:MS) (sv pv:Value) (x:In) (h:MM w mb B l iv ov ins sp s sv pv) (hf:formErr x=0) (ht:takesOf x.op.toNat≤(s.st.length:Int)) (hl:s.st.length≤1000) (hpc:s.pc≤1000000) (hps:s.ps.length≤4000000) (hc:∀ j,0≤s.cs.getD j 0∧s.cs.getD j 0≤1000) :
  Calls Tryd.prog 49 #[.pointer (some ⟨mb,0,none⟩),x.val] w (Does w mb B l iv ov ins sp s sv pv x):=by
 obtain ⟨h1,h2,-⟩:=form_op hf
 obtain ⟨ha,h7,h3,-,-,-,-,hb,-⟩:=form_a hf
 obtain ⟨op,a,b⟩:=x
 dsimp only at h1 h2 ha h7 h3 hb ht
 obtain ⟨m,rfl⟩:∃ m:Nat,a=m:=⟨a.toNat,by omega⟩
 obtain ⟨t,rfl⟩:∃ t:Nat,b=t:=⟨b.toNat,by omega⟩
 show Calls Tryd.prog 49 #[.pointer (some ⟨mb,0,none⟩),.agg #[.int .i64 op,.int .i64 m,.int .i64 t]] w _
 have tk1:∀ q:Nat,takesOf q=1→takesOf q≤(s.st.length:Int)→∃ n,s.st.length=n+1:=fun q e h=>⟨s.st.length - 1,by omega⟩
 have tk2:∀ q:Nat,takesOf q=2→takesOf q≤(s.st.length:Int)→∃ n,s.st.length=n+2:=fun q e h=>⟨s.st.length - 2,by omega⟩
 rcases eighteen h1 h2 with e | e | e | e | e | e | e | e | e | e | e | e | e | e | e | e | e | e <;> subst e
 ·exact do_1 w mb B l iv ov ins sp s sv pv _ _ h hl hpc
 ·exact do_2 w mb B l iv ov ins sp s sv pv m _ h hl hpc (by have:=h7 (by omega);omega)
 ·obtain ⟨n,hn⟩:=tk1 _ (by decide) ht
  exact do_3 w mb B l iv ov ins sp s sv pv m _ n h hl hpc (by have:=h7 (by omega);omega) hn
 ·obtain ⟨n,hn⟩:=tk2 _ (by decide) ht
  exact do_4 w mb B l iv ov ins sp s sv pv _ _ n h hl hpc hn
 ·obtain ⟨n,hn⟩:=tk2 _ (by decide) ht
  exact do_5 w mb B l iv ov ins sp s sv pv _ _ n h hl hpc hn
 ·obtain ⟨n,hn⟩:=tk2 _ (by decide) ht
  exact do_6 w mb B l iv ov ins sp s sv pv _ _ n h hl hpc hn
 ·obtain ⟨n,hn⟩:=tk2 _ (by decide) ht
  exact do_7 w mb B l iv ov ins sp s sv pv _ _ n h hl hpc hn
 ·obtain ⟨n,hn⟩:=tk2 _ (by decide) ht
  exact do_8 w mb B l iv ov ins sp s sv pv _ _ n h hl hpc hn
 ·exact do_9 w mb B l iv ov ins sp s sv pv m _ h hl hpc (by have:=h3 (by omega);omega)
 ·obtain ⟨n,hn⟩:=tk1 _ (by decide) ht
  exact do_10 w mb B l iv ov ins sp s sv pv m _ n h hl hpc hn hps
 ·exact do_11 w mb B l iv ov ins sp s sv pv m _ h hl hpc
 ·obtain ⟨n,hn⟩:=tk1 _ (by decide) ht
  by_cases hz:s.top=0
  ·exact do_12t w mb B l iv ov ins sp s sv pv m _ n h hl hpc hn hz
  ·exact do_12f w mb B l iv ov ins sp s sv pv _ _ n h hl hpc hn hz
 ·exact do_13 w mb B l iv ov ins sp s sv pv m _ h hl hpc (by have:=h7 (by omega);omega)
 ·have hm:m<8:=by have:=h7 (by omega);omega
  have hcm:=hc m
  by_cases hz:s.cs.getD m 0=0
  ·exact do_14f w mb B l iv ov ins sp s sv pv m _ h hl hpc hm hz
  ·exact do_14t w mb B l iv ov ins sp s sv pv m t _ h hl hpc hm rfl (by omega) hcm.2
 ·exact do_15 w mb B l iv ov ins sp s sv pv m _ h hl hpc (by have:=h7 (by omega);omega)
 ·exact do_16 w mb B l iv ov ins sp s sv pv _ _ h hl hpc
 ·exact do_17 w mb B l iv ov ins sp s sv pv _ _ h hl hpc
 ·exact do_18 w mb B l iv ov ins sp s sv pv _ _ h hl hpc
theorem append_mine {P:Program} (w:World) {ops:Array Oper} {rest:List Oper} {o:Oper} {a:Act} {Q:Exit→Act→World→Prop}
  (hg:o.guard=none) (s x:Operand) (t:TypeId) (hop:o.op=Op.call { callee:=Callee.builtin Builtin.append,args:=#[s,x],argTypes:=#[t,t] })
  (base:Nat) (e:TypeId) (i:TypeInfo) (z:Value) (size bytes:Nat) (h1:P.underlying t=some (.slice e)) (h2:P.info? e=some i) (h3:i.zero=some z) (h4:i.size=size) (h5:i.bytes=bytes) (h6:z.cells.size=size) (h7:0<size)
  (v:Value) (n:Nat) (xs:List Value) (hs:a.eval s=v) (hown:w.ownsRow base e size v n xs)
  (ad:Addr) (m c:Nat) (news:List Value) (hx:a.eval x = .slice (some ad) m c) (hn:news.length=m*size) (hc:∀ j u,news[j]?=some u→w.cell? (ad.add j)=some u) (h1c:∀ u ∈ news,u.oneCell'=true)
  (hm:0<m) (b1:n+m≤maxLen) (b2:(n+m)*bytes≤140737488355328) (hbase:base≤w.heap.size)
  (hK:∀ v' w',w'.ownsRow base e size v' (n+m) (xs++news)→w.grownBy w' v.ownBlock→(v'.ownBlock=v.ownBlock∨∀ k,v'.ownBlock=some k→w.heap.size≤k)→wpList P ops Q rest (a.put o.dst v') w') :
  wpList P ops Q (o::rest) a w:=by
 have up:∀ v' w',w'.ownsRow w.heap.size e size v' (n+m) (xs++news)→w.grownBy w' none→wpList P ops Q rest (a.put o.dst v') w':=by
  intro v' w' ho hgr
  refine hK v' w' ?_ ⟨hgr.os,hgr.tape,hgr.output,hgr.size,fun k hk _=>hgr.block k hk (by simp)⟩ (.inr fun k hk=>(ho.lt k hk).1)
  obtain ⟨q1,q2⟩:=ho
  refine ⟨q1,?_⟩
  rcases q2 with q2 | ⟨g,cap,cur,hv,hb,r⟩
  ·exact .inl q2
  ·exact .inr ⟨g,cap,cur,hv,Nat.le_trans hbase hb,r⟩
 have hown':=hown
 obtain ⟨hl,ho⟩:=hown
 rcases ho with ⟨rfl,rfl⟩ | ⟨g,cap,cur,rfl,hb,hgg,hcap,hcm,hcs,htk⟩
 ·have hxs:xs=[]:=List.eq_nil_of_length_eq_zero (by simpa using hl)
  subst hxs
  exact wpList_append_grows w hg s x t hop e i z size bytes h1 h2 h3 h4 h5 h6 h7 none 0 0 [] hs (fun _=>⟨rfl,rfl⟩) (by simp) (fun b hb=>by cases hb) ad m c news hx hn hc h1c (by omega) b1 b2 up
 ·by_cases hr:n+m≤cap
  ·exact wpList_append_fits w hg s x t hop base e i size h1 h2 h4 g n cap xs hs hown' ad m c news hx hn hc h1c hr fun w' q1 q2=>hK _ w' q1 q2 (.inl rfl)
  ·exact wpList_append_grows w hg s x t hop e i z size bytes h1 h2 h3 h4 h5 h6 h7 (some ⟨g,0,none⟩) n cap xs hs (fun h=>by cases h) hl (fun b hb'=>by cases hb';exact hown'.cells rfl) ad m c news hx hn hc h1c (by omega) b1 b2 up
theorem InSl.of_own {w:World} {B:Nat} {v:Value} {l:List In} (h:w.ownsRow B 35 3 v l.length (insVs l)):InSl w l v∧∀ ad n c,v = .slice (some ad) n c→B≤ad.block∧ad.block<w.heap.size:=by
 obtain ⟨ad,cap,rfl⟩:=owns_value h
 have h':=h
 obtain ⟨-,⟨e,he⟩ | ⟨g,cap',cur,e,hB,hg,-,-,-,ht⟩⟩:=h'
 ·have hl0:l=[]:=List.length_eq_zero_iff.1 he
  subst hl0
  simp only [Value.slice.injEq] at e
  obtain ⟨rfl,-,rfl⟩:=e
  exact ⟨⟨_,_,rfl,.inl rfl⟩,fun ad n c e=>by cases e⟩
 ·simp only [Value.slice.injEq] at e
  obtain ⟨rfl,-,rfl⟩:=e
  refine ⟨⟨_,_,rfl,.inr ⟨g,0,rfl,fun j hj=>?_⟩⟩,fun ad n c e=>by cases e;exact ⟨hB,(Array.getElem?_eq_some_iff.1 hg).1⟩⟩
  obtain ⟨h0,h1,h2⟩:=insVs_at l j hj
  rw [Nat.zero_add]
  exact ⟨(h.cellAt (j*3) (by omega)).trans h0,(h.cellAt (j*3+1) (by omega)).trans h1,(h.cellAt (j*3+2) (by omega)).trans h2⟩
set_option maxRecDepth 20000 in
set_option maxHeartbeats 2000000 in
theorem cloneI_any (w:World) (l:List In) (ad:Option Addr) (c:Nat) (hl:l.length≤100000) (h:InSl w l (.slice ad l.length c)) (hnil:ad=none→l.length=0∧c=0) :
  Calls Tryd.prog 52 #[.slice ad l.length c] w fun r w'=>∃ u,r = .returned u∧(InSl w' l u∧∀ ad n c,u = .slice (some ad) n c→w.heap.size≤ad.block∧ad.block<w'.heap.size)∧Below w.heap.size w w':=by
 obtain ⟨i0,hi0,hz0,hz1,hz2⟩:=info_parts info52
 have q22:∀ (w:World) (a:Option Addr) (n c n' c':Nat),(binOp .eql 22 (.slice a n c) (.slice none n' c')).run Tryd.prog w = .ok (.bool a.isNone) w:=fun w a n c n' c'=>Lib.run_eql_slice_nil w _ _ a n c n' c' Tryd.underlying22
 rcases ad with _ | ad
 ·obtain ⟨h0,rfl⟩:=hnil rfl
  have hl0:l=[]:=List.length_eq_zero_iff.1 h0
  subst hl0
  go_enter Tryd.func52,Tryd.ntmps52
  go_wp2_with fail
  go_ret
  exact ⟨_,rfl,⟨⟨none,0,rfl,.inl rfl⟩,fun ad n c e=>by cases e⟩,Below.refl _ _⟩
 ·have HV:Hid (InSl w l (.slice (some ad) l.length c)):=h
  clear h hnil
  by_cases h0:l.length=0
  ·have hl0:l=[]:=List.length_eq_zero_iff.1 h0
   subst hl0
   go_enter Tryd.func52,Tryd.ntmps52
   go_wp2_with (at_builtin;refine wpList_append_fits_any _ rfl (.tmp 5) (.tmp 6) 22 rfl w.heap.size 35 i0 3 Tryd.underlying22 hi0 hz1 w.heap.size 0 0 [] rfl (World.ownsRow_made w #[] 0 (Nat.le_refl _) (Nat.zero_le _) rfl) (some ad) 0 c [] rfl rfl (by intro e;cases e) (by intro ad' e j u hj;simp at hj) (by simp) (by omega) ?_;intro w2 ho2 hg2;have H2:Hid (w2.ownsRow w.heap.size 35 3 (.slice (some ⟨w.heap.size,0,none⟩) 0 0) 0 []∧Below w.heap.size w w2):=⟨by simpa using ho2,((Below.refl _ w).alloc (Nat.le_refl _) _).grown hg2 (by simp) (by intro k hk;simp at hk;omega)⟩;clear ho2 hg2)
   go_ret
   exact ⟨_,rfl,InSl.of_own (l:=[]) H2.out.1,H2.out.2⟩
  ·have hcell:=HV.out.arg (below_new w (.cells #[] 35))
   go_enter Tryd.func52,Tryd.ntmps52
   go_wp2_with (at_builtin;refine append_mine _ rfl (.tmp 5) (.tmp 6) 22 rfl w.heap.size 35 i0 _ 3 24 Tryd.underlying22 hi0 hz0 hz1 hz2 rfl (by decide) (.slice (some ⟨w.heap.size,0,none⟩) 0 0) 0 [] rfl (World.ownsRow_made w #[] 0 (Nat.le_refl _) (Nat.zero_le _) rfl) ad l.length c (insVs l) rfl (by rw [insVs_length]) (fun j u hj=>hcell ad rfl j u hj) (fun u hu=>insVs_one hu) (by omega) (by unfold maxLen;omega) (by omega) (by simp) ?_;intro v3 w3 hown3 hg3 hv3;have H3:Hid (w3.ownsRow w.heap.size 35 3 v3 l.length (insVs l)∧Below w.heap.size w w3):=⟨by simpa using hown3,((Below.refl _ w).alloc (Nat.le_refl _) _).grown hg3 (by simp) (by intro k hk;simp [Value.ownBlock] at hk;omega)⟩;clear hown3 hg3 hv3)
   go_ret
   exact ⟨_,rfl,InSl.of_own H3.out.1,H3.out.2⟩
theorem intVs_one {vs:List Int} {u:Value} (h:u ∈ intVs vs):u.oneCell'=true:=by
 obtain ⟨x,_,rfl⟩:=List.mem_map.1 h
 rfl
theorem putVs_length (ps:List (Int × Int)):(putVs ps).length=ps.length*2:=by
 induction ps with
 | nil=>rfl
 | cons p r ih =>
  have:putVs (p::r) = .int .i64 p.1 :: .int .i64 p.2::putVs r:=by simp [putVs]
  rw [this,List.length_cons,List.length_cons,ih,List.length_cons]
  omega
theorem putVs_one {ps:List (Int × Int)} {u:Value} (h:u ∈ putVs ps):u.oneCell'=true:=by
 obtain ⟨x,_,hx⟩:=List.mem_flatMap.1 h
 simp at hx
 rcases hx with rfl | rfl <;> rfl
set_option maxRecDepth 20000 in
set_option maxHeartbeats 2000000 in
theorem cloneN_any (w:World) (b o c:Nat) (vs:List Int) (n:Nat) (hn:vs.length=n) (h0:0<n) (hl:n≤4000000) (hv:∀ j,j<n→w.cell? ⟨b,o+j,none⟩=some (.int .i64 (vs.getD j 0))) :
  Calls Tryd.prog 72 #[.slice (some ⟨b,o,none⟩) n c] w fun r w'=>∃ u,r = .returned u∧w'.ownsRow w.heap.size 3 1 u vs.length (intVs vs)∧Below w.heap.size w w':=by
 subst hn
 obtain ⟨i0,hi0,hz0,hz1,hz2⟩:=info_parts info3
 have q22:∀ (w:World) (a:Option Addr) (n c n' c':Nat),(binOp .eql 23 (.slice a n c) (.slice none n' c')).run Tryd.prog w = .ok (.bool a.isNone) w:=fun w a n c n' c'=>Lib.run_eql_slice_nil w _ _ a n c n' c' Tryd.underlying23
 have hcell:∀ j u,(intVs vs)[j]?=some u→(w.alloc (.cells #[] 3)).cell? ((⟨b,o,none⟩:Addr).add j)=some u:=by
  intro j u hj
  have hjl:j<vs.length:=by have:=(List.getElem?_eq_some_iff.1 hj).1;simpa [intVs] using this
  rw [Addr.add_lit]
  refine below_cell (below_new _ _) ?_
  rw [hv j hjl]
  rw [intVs_at hjl] at hj
  exact hj
 clear hv
 go_enter Tryd.func72,Tryd.ntmps72
 go_wp2_with (at_builtin;refine append_mine _ rfl (.tmp 5) (.tmp 6) 23 rfl w.heap.size 3 i0 _ 1 8 Tryd.underlying23 hi0 hz0 hz1 hz2 rfl (by decide) (.slice (some ⟨w.heap.size,0,none⟩) 0 0) 0 [] rfl (World.ownsRow_made w #[] 0 (Nat.le_refl _) (Nat.zero_le _) rfl) ⟨b,o,none⟩ vs.length c (intVs vs) rfl (by rw [intVs_length,Nat.mul_one]) hcell (fun u hu=>intVs_one hu) h0 (by unfold maxLen;omega) (by omega) (by simp) ?_;intro v3 w3 hown3 hg3 hv3;have H3:Hid (w3.ownsRow w.heap.size 3 1 v3 vs.length (intVs vs)∧Below w.heap.size w w3):=⟨by simpa using hown3,((Below.refl _ w).alloc (Nat.le_refl _) _).grown hg3 (by simp) (by intro k hk;simp [Value.ownBlock] at hk;omega)⟩;clear hown3 hg3 hv3)
 go_ret
 exact ⟨_,rfl,H3.out.1,H3.out.2⟩
set_option maxRecDepth 20000 in
set_option maxHeartbeats 2000000 in
theorem cloneP_any (w:World) (B:Nat) (pv:Value) (ps:List (Int × Int)) (h:w.ownsRow B 43 2 pv ps.length (putVs ps)) (hl:ps.length≤4000000) :
  Calls Tryd.prog 86 #[pv] w fun r w'=>∃ u,r = .returned u∧w'.ownsRow w.heap.size 43 2 u ps.length (putVs ps)∧Below w.heap.size w w':=by
 obtain ⟨i0,hi0,hz0,hz1,hz2⟩:=info_parts infoPut
 have q22:∀ (w:World) (a:Option Addr) (n c n' c':Nat),(binOp .eql 25 (.slice a n c) (.slice none n' c')).run Tryd.prog w = .ok (.bool a.isNone) w:=fun w a n c n' c'=>Lib.run_eql_slice_nil w _ _ a n c n' c' Tryd.underlying25
 have h':=h
 obtain ⟨hlen,⟨rfl,he⟩ | ⟨g,cap,cur,rfl,hB,hg,hn,hm,hs,ht⟩⟩:=h'
 ·go_enter Tryd.func86,Tryd.ntmps86
  go_wp2_with fail
  go_ret
  exact ⟨_,rfl,⟨hlen,.inl ⟨rfl,he⟩⟩,Below.refl _ _⟩
 ·have hcell:∀ j u,(putVs ps)[j]?=some u→(w.alloc (.cells #[] 43)).cell? ((⟨g,0,none⟩:Addr).add j)=some u:=by
   intro j u hj
   have hjl:j<ps.length*2:=by have:=(List.getElem?_eq_some_iff.1 hj).1;rwa [putVs_length] at this
   rw [Addr.add_lit,Nat.zero_add]
   exact below_cell (below_new _ _) ((h.cellAt j (by omega)).trans hj)
  clear h hg hn hm hs ht hlen
  by_cases h0:ps.length=0
  ·have hp0:ps=[]:=List.length_eq_zero_iff.1 h0
   subst hp0
   go_enter Tryd.func86,Tryd.ntmps86
   go_wp2_with (at_builtin;refine wpList_append_fits_any _ rfl (.tmp 5) (.tmp 6) 25 rfl w.heap.size 43 i0 2 Tryd.underlying25 hi0 hz1 w.heap.size 0 0 [] rfl (World.ownsRow_made w #[] 0 (Nat.le_refl _) (Nat.zero_le _) rfl) (some ⟨g,0,none⟩) 0 cap [] rfl rfl (by intro e;cases e) (by intro ad' e j u hj;simp at hj) (by simp) (by omega) ?_;intro w2 ho2 hg2;have H2:Hid (w2.ownsRow w.heap.size 43 2 (.slice (some ⟨w.heap.size,0,none⟩) 0 0) 0 []∧Below w.heap.size w w2):=⟨by simpa using ho2,((Below.refl _ w).alloc (Nat.le_refl _) _).grown hg2 (by simp) (by intro k hk;simp at hk;omega)⟩;clear ho2 hg2)
   go_ret
   exact ⟨_,rfl,H2.out.1,H2.out.2⟩
  ·go_enter Tryd.func86,Tryd.ntmps86
   go_wp2_with (at_builtin;refine append_mine _ rfl (.tmp 5) (.tmp 6) 25 rfl w.heap.size 43 i0 _ 2 16 Tryd.underlying25 hi0 hz0 hz1 hz2 rfl (by decide) (.slice (some ⟨w.heap.size,0,none⟩) 0 0) 0 [] rfl (World.ownsRow_made w #[] 0 (Nat.le_refl _) (Nat.zero_le _) rfl) ⟨g,0,none⟩ ps.length cap (putVs ps) rfl (by rw [putVs_length]) hcell (fun u hu=>putVs_one hu) (by omega) (by unfold maxLen;omega) (by omega) (by simp) ?_;intro v3 w3 hown3 hg3 hv3;have H3:Hid (w3.ownsRow w.heap.size 43 2 v3 ps.length (putVs ps)∧Below w.heap.size w w3):=⟨by simpa using hown3,((Below.refl _ w).alloc (Nat.le_refl _) _).grown hg3 (by simp) (by intro k hk;simp [Value.ownBlock] at hk;omega)⟩;clear hown3 hg3 hv3)
   go_ret
   exact ⟨_,rfl,H3.out.1,H3.out.2⟩
theorem MM.ivs {w:World} {mb B:Nat} {l:List In} {iv ov:Value} {ins:List Int} {sp:Int} {s:MS} {sv pv:Value} (h:MM w mb B l iv ov ins sp s sv pv):∃ ad c,iv = .slice ad l.length c:=by
 obtain ⟨⟨ad,c,e,-⟩,-⟩:=h.img
 exact ⟨ad,c,e⟩
set_option maxRecDepth 20000 in
set_option maxHeartbeats 4000000 in
theorem Done_any (w:World) (mb B:Nat) (l:List In) (iv ov:Value) (ins:List Int) (sp:Int) (s:MS) (sv pv:Value) (h:MM w mb B l iv ov ins sp s sv pv) :
  Calls Tryd.prog 23 #[.pointer (some ⟨mb,0,none⟩)] w fun r w'=>r = .returned (.bool (decide (s.pc=l.length)))∧Below w.heap.size w w':=by
 have lm:=h.lt
 have c0:=h.c_iv
 have c23:=h.c_pc
 obtain ⟨ad,c,rfl⟩:=h.ivs
 clear h
 by_cases e:s.pc=l.length
 ·have f1:((s.pc:Int) == (l.length:Int))=true:=by rw [e];simp
  have f2:decide (s.pc=l.length)=true:=by simpa using e
  rw [f2]
  clear f2
  generalize s.pc=p at *
  generalize l.length=n at *
  clear e
  go_enter Tryd.func23,Tryd.ntmps23
  go_wp2_with fail
  go_quiet (fail)
  go_wp2_with fail
  go_ret
  exact ⟨rfl,below_drewN'⟩
 ·have f1:((s.pc:Int) == (l.length:Int))=false:=by simp;omega
  have f2:decide (s.pc=l.length)=false:=by simpa using e
  rw [f2]
  clear f2
  generalize s.pc=p at *
  generalize l.length=n at *
  clear e
  go_enter Tryd.func23,Tryd.ntmps23
  go_wp2_with fail
  go_quiet (fail)
  go_wp2_with fail
  go_ret
  exact ⟨rfl,below_drewN'⟩
set_option maxRecDepth 20000 in
set_option maxHeartbeats 4000000 in
theorem Vars_any (w:World) (mb B:Nat) (l:List In) (iv ov:Value) (ins:List Int) (sp:Int) (s:MS) (sv pv:Value) (h:MM w mb B l iv ov ins sp s sv pv) :
  Calls Tryd.prog 50 #[.pointer (some ⟨mb,0,none⟩)] w fun r w'=>∃ u,r = .returned u∧w'.ownsRow w.heap.size 3 1 u s.vs.length (intVs s.vs)∧Below w.heap.size w w':=by
 have lm:=h.lt
 have HM:Hid (MM w mb B l iv ov ins sp s sv pv):=h
 have cv0:=h.c_vs (j:=0) (by omega)
 clear h
 go_enter Tryd.func50,Tryd.ntmps50
 go_wp2_with (go_at_call 72;refine (cloneN_any _ mb 1 8 s.vs 8 HM.out.lv (by omega) (by omega) (fun j hj=>by rw [Nat.add_comm];exact HM.out.c_vs hj)).mono ?_;rintro r w3 ⟨u,rfl,ho,hb⟩;have H3:Hid (_∧_):=⟨ho,hb⟩;clear ho hb)
 go_ret
 exact ⟨_,rfl,H3.out.1,H3.out.2⟩
set_option maxRecDepth 20000 in
set_option maxHeartbeats 4000000 in
theorem Puts_any (w:World) (mb B:Nat) (l:List In) (iv ov:Value) (ins:List Int) (sp:Int) (s:MS) (sv pv:Value) (h:MM w mb B l iv ov ins sp s sv pv) (hl:s.ps.length≤4000000) :
  Calls Tryd.prog 51 #[.pointer (some ⟨mb,0,none⟩)] w fun r w'=>∃ u,r = .returned u∧w'.ownsRow w.heap.size 43 2 u s.ps.length (putVs s.ps)∧Below w.heap.size w w':=by
 have lm:=h.lt
 have HM:Hid (MM w mb B l iv ov ins sp s sv pv):=h
 have cp:=h.c_pv
 clear h
 go_enter Tryd.func51,Tryd.ntmps51
 go_wp2_with (go_at_call 86;refine (cloneP_any _ B pv s.ps HM.out.pts hl).mono ?_;rintro r w3 ⟨u,rfl,ho,hb⟩;have H3:Hid (_∧_):=⟨ho,hb⟩;clear ho hb)
 go_ret
 exact ⟨_,rfl,H3.out.1,H3.out.2⟩
theorem ins_run (w:World) (q clock:Nat) (es:Array MapEntry) (z:Int) (v:Value) (h:w.heap[q]?=some (.map es clock)) (hf:Instr.findNow (.int .i64) (.int .i64 z) es.toList 0=some none) :
  ∃ w',(Instr.mapUpdate 90 (.map (some q)) (.int .i64 z) v).run Tryd.prog w = .ok () w'∧w'.heap[q]?=some (.map (es.push ⟨.int .i64 z,v,clock⟩) (clock+1))∧w.grownBy w' (some q):=by
 have hck:∀ e:Bool,(Instr.checkKey e 10000 3 (.int .i64 z)).run Tryd.prog w = .ok () w:=fun e=>MapKept.run_checkKey (d:=.int .i64) (k:=.int .i64 z) Tryd.underlying3 (by simp [MapKept.IsKey]) e 9999
 refine ⟨{ w with heap:=w.heap.setIfInBounds q (.map (es.push ⟨.int .i64 z,v,clock⟩) (clock+1)) },?_,(MapKept.heap_set h).1,⟨rfl,rfl,rfl,by simp,fun k hk hne=>(MapKept.heap_set h).2 k (fun e=>hne (by rw [e]))⟩⟩
 simp [Instr.mapUpdate,run_underlying Tryd.underlying90,MapKept.run_getObj_map h,hck,MapKept.run_findKey (d:=.int .i64) Tryd.underlying3 hf,MapKept.run_setObj_map _ h,Result.andThen]
theorem store_holds (w:World):(store ⟨w.heap.size,0,none⟩ (.func (Fn.func 87) #[] #[])).run Tryd.prog (w.alloc (.cells #[.nilFunc] 151)) = .ok () (w.alloc (.cells #[.func (Fn.func 87) #[] #[]] 151)):=by
 rw [run_store Tryd.prog _ _ (.func (Fn.func 87) #[] #[]) .plain rfl]
 simp [go_sem]
set_option maxRecDepth 20000 in
set_option maxHeartbeats 4000000 in
theorem operators_any (w:World):Calls Tryd.prog 53 #[] w fun r w'=>∃ ov,r = .returned ov∧OpsAt w' w'.heap.size ov∧Below w.heap.size w w':=by
 have hmm:=@run_makeMap Tryd.prog
 have h0:=heap_alloc_new (w.alloc (.cells #[.func (Fn.func 87) #[] #[]] 151)) (.map #[] 0)
 rw [show (w.alloc (.cells #[.func (Fn.func 87) #[] #[]] 151)).heap.size=w.heap.size+1 by simp] at h0
 obtain ⟨w1,r1,m1,g1⟩:=ins_run _ (w.heap.size+1) 0 #[] 4 (.func (Fn.func 88) #[] #[]) h0 rfl
 obtain ⟨w2,r2,m2,g2⟩:=ins_run _ (w.heap.size+1) 1 _ 5 (.func (Fn.func 89) #[] #[]) m1 rfl
 obtain ⟨w3,r3,m3,g3⟩:=ins_run _ (w.heap.size+1) 2 _ 6 (.func (Fn.func 90) #[] #[]) m2 rfl
 obtain ⟨w4,r4,m4,g4⟩:=ins_run _ (w.heap.size+1) 3 _ 7 (.func (Fn.func 91) #[] #[.pointer (some ⟨w.heap.size,0,none⟩)]) m3 rfl
 obtain ⟨w5,r5,m5,g5⟩:=ins_run _ (w.heap.size+1) 4 _ 8 (.func (Fn.func 92) #[] #[.pointer (some ⟨w.heap.size,0,none⟩)]) m4 rfl
 have gg:=grown_trans (grown_trans (grown_trans (grown_trans g1 g2) g3) g4) g5
 have hw:w5.heap[w.heap.size]?=some (.cells #[.func (Fn.func 87) #[] #[]] 151 (0,0)):=by
  rw [gg.block w.heap.size (by simp;omega) (by intro e;simp at e)]
  rw [Below.heap_alloc _ _ _ (by simp)]
  exact heap_alloc_new w _
 have HB:Hid (OpsAt w5 w5.heap.size (.map (some (w.heap.size+1)))∧Below w.heap.size w w5):=by
  refine ⟨⟨w.heap.size+1,w.heap.size,rfl,(Array.getElem?_eq_some_iff.1 m5).1,(Array.getElem?_eq_some_iff.1 hw).1,m5,hw⟩,?_⟩
  exact (((Below.refl _ w).alloc (Nat.le_refl _) _).alloc (by simp) _).grown gg (by simp;omega) (by intro k hk;cases hk;omega)
 have hmf:∀ (fn:Fn) (first cap:Array Value) (w:World),(Instr.makeFunc fn first cap).run Tryd.prog w = .ok (.func fn first cap) w:=fun _ _ _ _=>rfl
 have hsh:=store_holds w
 clear m1 m2 m3 m4 m5 g1 g2 g3 g4 g5 gg h0 hw
 go_enter Tryd.func53,Tryd.ntmps53
 go_wp2_with fail
 go_ret
 exact ⟨_,rfl,HB.out.1,HB.out.2⟩
end Go.Proofs.YtnkgbkkakokciacDoor
