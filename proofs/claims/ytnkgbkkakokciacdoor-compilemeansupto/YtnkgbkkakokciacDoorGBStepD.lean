import Derived.Test.YtnkgbkkakokciacDoorGBStepB
import Derived.Test.YtnkgbkkakokciacDoorGBStepC
import Derived.Test.YtnkgbkkakokciacDoorGMRun1
namespace Go.Proofs.YtnkgbkkakokciacDoor.B
open Go.ChangeShapes Go.WideShapes Go.ChangeAt Go.RowKit
set_option maxRecDepth 20000 in
set_option maxHeartbeats 4000000 in
theorem step_4 (w0 w:World) (rb vb B vc nb nc:Nat) (iv pv:Value) (L:List Nd) (is:List Int) (s:Ms) (at_:Nat) (hh:Here w0 w rb vb B vc nb nc iv pv L is s) (hst:s.steps<20000) (hA:at_<L.length) (_:L.length≤2097152) (r:Ms × Option Nat) (hl:Here w0 (w.setCell ⟨rb,2,none⟩ (.int .i64 ((s.steps:Int)+1))) rb vb B vc nb nc iv pv L is { s with steps:=s.steps+1 }→Calls Tryd.prog 150 #[.pointer (some ⟨rb,0,none⟩),.int .i64 at_] (w.setCell ⟨rb,2,none⟩ (.int .i64 ((s.steps:Int)+1))) (RunPost rb vb B vc iv (.slice (some ⟨nb,0,none⟩) L.length nc) (w.setCell ⟨rb,2,none⟩ (.int .i64 ((s.steps:Int)+1))) pv r))
  (c0:w.cell? ⟨nb,at_*16,none⟩=some (.int .i64 4)) :
  Calls Tryd.prog 134 #[.pointer (some ⟨rb,0,none⟩),.int .i64 at_] w (RunPost rb vb B vc iv (.slice (some ⟨nb,0,none⟩) L.length nc) w pv (r)):=by
 obtain ⟨r0,r1,r2,r3,r4,rf,rl⟩:=hh.rn.cells
 have hd:((s.steps:Int) == 20000)=false:=by simp;omega
 have hnr:nb≠rb:=hh.nr
 have hE:=hh.rn.stepped (s.steps+1)
 have HE:Hid (Here w0 (w.setCell ⟨rb,2,none⟩ (.int .i64 ((s.steps:Int)+1))) rb vb B vc nb nc iv pv L is { s with steps:=s.steps+1 }∧RR rb vb w (w.setCell ⟨rb,2,none⟩ (.int .i64 ((s.steps:Int)+1))) pv pv):=⟨hh.next hE.1 hE.2 (by simp only;omega) (by have:=hh.pt;simp only;omega) hh.nl,hE.2⟩
 obtain ⟨q0,q1,-,q3,q4,qf,ql⟩:=HE.out.1.rn.cells
 have e0:=cell_set' (u:=.int .i64 ((s.steps:Int)+1)) (a:=⟨rb,2,none⟩) hnr c0
 have HN:Hid (nb<w.heap.size):=hh.nl
 clear hE hh c0
 have HLP:Hid (Calls Tryd.prog 150 #[.pointer (some ⟨rb,0,none⟩),.int .i64 at_] (w.setCell ⟨rb,2,none⟩ (.int .i64 ((s.steps:Int)+1))) (RunPost rb vb B vc iv (.slice (some ⟨nb,0,none⟩) L.length nc) (w.setCell ⟨rb,2,none⟩ (.int .i64 ((s.steps:Int)+1))) pv r)):=hl HE.out.1
 clear hl
 go_enter Tryd.func134,Tryd.ntmps134
 obtain ⟨s3,z⟩:=r
 cases z with
 | none =>
  go_wp2_with fail
  refine HLP.out.mono ?_
  intro r w3 hpost
  unfold RunPost at hpost
  obtain ⟨rfl,pv3,hk3,hr3⟩:=hpost
  have H3:Hid (_∧_):=⟨hk3,hr3⟩
  clear hk3 hr3
  go_wp2_with fail
  go_end0
  exact ⟨rfl,pv3,H3.out.1,HE.out.2.trans H3.out.2⟩
 | some z =>
  go_wp2_with fail
  refine HLP.out.mono ?_
  intro r w3 hpost
  unfold RunPost at hpost
  obtain ⟨rfl,pv3,hr3⟩:=hpost
  have H3:Hid _:=hr3
  clear hr3
  go_wp2_with fail
  refine ⟨rfl,?_⟩
  exact ⟨rfl,pv3,HE.out.2.trans H3.out⟩
set_option maxRecDepth 20000 in
set_option maxHeartbeats 4000000 in
theorem step_5 (w0 w:World) (rb vb B vc nb nc:Nat) (iv pv:Value) (L:List Nd) (is:List Int) (s:Ms) (at_:Nat) (hh:Here w0 w rb vb B vc nb nc iv pv L is s) (hst:s.steps<20000) (hA:at_<L.length) (_:L.length≤2097152) (r:Ms × Option Nat) (hl:Here w0 (w.setCell ⟨rb,2,none⟩ (.int .i64 ((s.steps:Int)+1))) rb vb B vc nb nc iv pv L is { s with steps:=s.steps+1 }→Calls Tryd.prog 150 #[.pointer (some ⟨rb,0,none⟩),.int .i64 at_] (w.setCell ⟨rb,2,none⟩ (.int .i64 ((s.steps:Int)+1))) (RunPost rb vb B vc iv (.slice (some ⟨nb,0,none⟩) L.length nc) (w.setCell ⟨rb,2,none⟩ (.int .i64 ((s.steps:Int)+1))) pv r))
  (c0:w.cell? ⟨nb,at_*16,none⟩=some (.int .i64 5)) :
  Calls Tryd.prog 134 #[.pointer (some ⟨rb,0,none⟩),.int .i64 at_] w (RunPost rb vb B vc iv (.slice (some ⟨nb,0,none⟩) L.length nc) w pv (r)):=by
 obtain ⟨r0,r1,r2,r3,r4,rf,rl⟩:=hh.rn.cells
 have hd:((s.steps:Int) == 20000)=false:=by simp;omega
 have hnr:nb≠rb:=hh.nr
 have hE:=hh.rn.stepped (s.steps+1)
 have HE:Hid (Here w0 (w.setCell ⟨rb,2,none⟩ (.int .i64 ((s.steps:Int)+1))) rb vb B vc nb nc iv pv L is { s with steps:=s.steps+1 }∧RR rb vb w (w.setCell ⟨rb,2,none⟩ (.int .i64 ((s.steps:Int)+1))) pv pv):=⟨hh.next hE.1 hE.2 (by simp only;omega) (by have:=hh.pt;simp only;omega) hh.nl,hE.2⟩
 obtain ⟨q0,q1,-,q3,q4,qf,ql⟩:=HE.out.1.rn.cells
 have e0:=cell_set' (u:=.int .i64 ((s.steps:Int)+1)) (a:=⟨rb,2,none⟩) hnr c0
 have HN:Hid (nb<w.heap.size):=hh.nl
 clear hE hh c0
 have HLP:Hid (Calls Tryd.prog 150 #[.pointer (some ⟨rb,0,none⟩),.int .i64 at_] (w.setCell ⟨rb,2,none⟩ (.int .i64 ((s.steps:Int)+1))) (RunPost rb vb B vc iv (.slice (some ⟨nb,0,none⟩) L.length nc) (w.setCell ⟨rb,2,none⟩ (.int .i64 ((s.steps:Int)+1))) pv r)):=hl HE.out.1
 clear hl
 go_enter Tryd.func134,Tryd.ntmps134
 obtain ⟨s3,z⟩:=r
 cases z with
 | none =>
  go_wp2_with fail
  refine HLP.out.mono ?_
  intro r w3 hpost
  unfold RunPost at hpost
  obtain ⟨rfl,pv3,hk3,hr3⟩:=hpost
  have H3:Hid (_∧_):=⟨hk3,hr3⟩
  clear hk3 hr3
  go_wp2_with fail
  go_end0
  exact ⟨rfl,pv3,H3.out.1,HE.out.2.trans H3.out.2⟩
 | some z =>
  go_wp2_with fail
  refine HLP.out.mono ?_
  intro r w3 hpost
  unfold RunPost at hpost
  obtain ⟨rfl,pv3,hr3⟩:=hpost
  have H3:Hid _:=hr3
  clear hr3
  go_wp2_with fail
  refine ⟨rfl,?_⟩
  exact ⟨rfl,pv3,HE.out.2.trans H3.out⟩
set_option maxHeartbeats 1000000 in
theorem stepp_of_list (w0:World) (rb vb B vc nb nc:Nat) (iv:Value) (L:List Nd) (is:List Int) (N:Nat) (hN:N≤1048576) (hL:L.length≤2097152) (hP:ListP w0 rb vb B vc nb nc iv L is N):StepP w0 rb vb B vc nb nc iv L is (N+1):=by
 intro x r w pv s at_ hb hok hsub hh
 obtain ⟨k,n,e,ck,ca,cb,b,l⟩:=x
 obtain ⟨hAt,hsb,hsl⟩:=hsub.parts
 have hA:=hAt.lt
 obtain ⟨v,hin,hcell,c14,c15⟩:=hh.tab.at hAt
 simp only at hin c14 c15
 unfold St.In stVal at hin
 obtain ⟨e0,e1,e2,a0,a1,a2,b0,b1,b2,sb,sl,hv,he,hca,hcb,⟨yad,yc,rfl,hy⟩,⟨lad,lc,rfl,hl⟩⟩:=hin
 simp only [Value.agg.injEq,Array.mk.injEq,List.cons.injEq,and_true] at hv
 obtain ⟨v0,v1,v2,v3,v4,v5,v6,v7,v8,v9,v10,v11,v12,v13⟩:=hv
 obtain ⟨ek,en,ea⟩:=e
 obtain ⟨ak,an,aa⟩:=ca
 obtain ⟨bk,bn,ba⟩:=cb
 have he':=he
 have hca':=hca
 have hcb':=hcb
 unfold Ex.In at he' hca' hcb'
 obtain ⟨ead,ec,hve,-⟩:=he'
 obtain ⟨aad,ac,hva,-⟩:=hca'
 obtain ⟨bad,bc,hvb',-⟩:=hcb'
 simp at hve hva hvb'
 obtain ⟨rfl,rfl,rfl⟩:=hve
 obtain ⟨rfl,rfl,rfl⟩:=hva
 obtain ⟨rfl,rfl,rfl⟩:=hvb'
 have c0:=hcell 0 (by omega)
 rw [v0] at c0
 have c1:=hcell 1 (by omega)
 rw [v1] at c1
 have c2:=hcell 2 (by omega)
 rw [v2] at c2
 have c3:=hcell 3 (by omega)
 rw [v3] at c3
 have c4:=hcell 4 (by omega)
 rw [v4] at c4
 have c5:=hcell 5 (by omega)
 rw [v5] at c5
 have c6:=hcell 6 (by omega)
 rw [v6] at c6
 have c7:=hcell 7 (by omega)
 rw [v7] at c7
 have c8:=hcell 8 (by omega)
 rw [v8] at c8
 have c9:=hcell 9 (by omega)
 rw [v9] at c9
 have c10:=hcell 10 (by omega)
 rw [v10] at c10
 have c11:=hcell 11 (by omega)
 rw [v11] at c11
 have c12:=hcell 12 (by omega)
 rw [v12] at c12
 have c13:=hcell 13 (by omega)
 rw [v13] at c13
 rw [Nat.add_zero] at c0
 clear hcell v0 v1 v2 v3 v4 v5 v6 v7 v8 v9 v10 v11 v12 v13 hy hl
 simp only [St.bulk] at hb
 unfold St.Ok at hok
 obtain ⟨⟨hk1,hk7⟩,ok1,ok2,ok3,ok4,okl,okb,okl'⟩:=hok
 by_cases h0:s.steps=20000
 ·have e0:St.run is (.mk k n (.mk ek en ea) ck (.mk ak an aa) (.mk bk bn ba) b l) at_ s=(s,some at_):=by rw [St.run,if_pos h0]
  rw [e0]
  exact step_bad w0 w rb vb B vc nb nc iv pv L is s at_ hh h0
 have hlt:s.steps<20000:=by have:=hh.st;omega
 have hbN:St.bulkAll b≤N:=by omega
 have hlN:St.bulkAll l≤N:=by omega
 have hk:k=1∨k=2∨k=3∨k=4∨k=5∨k=6∨k=7:=by omega
 have hf:∀ i u,nb≠rb→w.cell? ⟨nb,i,none⟩=some u→(w.setCell ⟨rb,2,none⟩ (.int .i64 ((s.steps:Int)+1))).cell? ⟨nb,i,none⟩=some u:=fun i u hn hc=>cell_set' (a:=⟨rb,2,none⟩) hn hc
 rcases hk with rfl | rfl | rfl | rfl | rfl | rfl | rfl
 ·obtain ⟨n0,n7,oke⟩:=ok1 rfl
  obtain ⟨m,rfl⟩:∃ m:Nat,n=m:=⟨n.toNat,by omega⟩
  have e0:St.run is (.mk 1 m (.mk ek en ea) ck (.mk ak an aa) (.mk bk bn ba) b l) at_ s=({ s with steps:=s.steps+1,vars:=s.vars.set m ((Ex.mk ek en ea).val s.vars is) },none):=by rw [St.run,if_neg h0];simp
  rw [e0]
  exact step_1 w0 w rb vb B vc nb nc iv pv L is s at_ hh hlt hA hL m ek en ead _ ec m (by omega) rfl (.mk ek en ea) (by omega) oke he c0 c1 c2 c3 c4
 ·have e0:St.run is (.mk 2 n (.mk ek en ea) ck (.mk ak an aa) (.mk bk bn ba) b l) at_ s=({ s with steps:=s.steps+1,puts:=s.puts++[(n,(Ex.mk ek en ea).val s.vars is)] },none):=by rw [St.run,if_neg h0];simp
  rw [e0]
  exact step_2 w0 w rb vb B vc nb nc iv pv L is s at_ hh hlt hA hL n ek en ead _ ec (.mk ek en ea) (by omega) (ok2 rfl) he c0 c1 c2 c3 c4
 ·have e0:St.run is (.mk 3 n (.mk ek en ea) ck (.mk ak an aa) (.mk bk bn ba) b l) at_ s=if condOf is ck (.mk ak an aa) (.mk bk bn ba) s then St.runAll is b (at_+1) { s with steps:=s.steps+1 } else St.runAll is l (at_+1+St.countAll b) { s with steps:=s.steps+1 }:=by rw [St.run,if_neg h0];simp
  rw [e0]
  obtain ⟨hck,oka,okb'⟩:=ok3 (.inl rfl)
  exact step_3 w0 w rb vb B vc nb nc iv pv L is s at_ hh hlt hA hL ck ak an bk bn aad bad _ ac _ bc _ _ N hP b l hbN hlN okb okl' hsb hsl rfl rfl (.mk ak an aa) (.mk bk bn ba) hck (by omega) (by omega) oka okb' hca hcb c0 c5 c6 c7 c8 c9 c10 c11 c14 c15
 ·obtain ⟨n0,n1⟩:=ok4 (.inl rfl)
  obtain ⟨m,rfl⟩:∃ m:Nat,n=m:=⟨n.toNat,by omega⟩
  have hl0:l=[]:=okl (by omega)
  subst hl0
  have e0:St.run is (.mk 4 m (.mk ek en ea) ck (.mk ak an aa) (.mk bk bn ba) b []) at_ s=again (fun _=>true) (fun s=>St.runAll is b (at_+1) s) m { s with steps:=s.steps+1 }:=by rw [St.run,if_neg h0];simp
  rw [e0]
  exact step_4 w0 w rb vb B vc nb nc iv pv L is s at_ hh hlt hA hL _ (fun hh1=>loop_4 w0 _ rb vb B vc nb nc iv pv L is _ at_ hh1 hA hL m (by omega) b yad yc N hP hbN okb hsb (hf _ _ hh.nr c0) (hf _ _ hh.nr c1) (hf _ _ hh.nr c12) (hf _ _ hh.nr c15)) c0
 ·obtain ⟨n0,n1⟩:=ok4 (.inr rfl)
  obtain ⟨m,rfl⟩:∃ m:Nat,n=m:=⟨n.toNat,by omega⟩
  have hl0:l=[]:=okl (by omega)
  subst hl0
  have e0:St.run is (.mk 5 m (.mk ek en ea) ck (.mk ak an aa) (.mk bk bn ba) b []) at_ s=again (condOf is ck (.mk ak an aa) (.mk bk bn ba)) (fun s=>St.runAll is b (at_+1) s) m { s with steps:=s.steps+1 }:=by rw [St.run,if_neg h0];simp
  rw [e0]
  obtain ⟨hck,oka,okb'⟩:=ok3 (.inr rfl)
  exact step_5 w0 w rb vb B vc nb nc iv pv L is s at_ hh hlt hA hL _ (fun hh1=>loop_5 w0 _ rb vb B vc nb nc iv pv L is _ at_ hh1 hA hL m (by omega) b yad yc ck ak an bk bn aad bad _ ac _ bc (.mk ak an aa) (.mk bk bn ba) hck (by omega) (by omega) oka okb' hca hcb N hP hbN okb hsb (hf _ _ hh.nr c0) (hf _ _ hh.nr c1) (hf _ _ hh.nr c5) (hf _ _ hh.nr c6) (hf _ _ hh.nr c7) (hf _ _ hh.nr c8) (hf _ _ hh.nr c9) (hf _ _ hh.nr c10) (hf _ _ hh.nr c11) (hf _ _ hh.nr c12) (hf _ _ hh.nr c15)) c0
 ·have hl0:l=[]:=okl (by omega)
  subst hl0
  have e0:St.run is (.mk 6 n (.mk ek en ea) ck (.mk ak an aa) (.mk bk bn ba) b []) at_ s=St.runAll is b (at_+1) { s with steps:=s.steps+1 }:=by rw [St.run,if_neg h0];simp
  rw [e0]
  exact step_6 w0 w rb vb B vc nb nc iv pv L is s at_ hh hlt hA hL _ N hP b hbN okb hsb (by simp [St.countAll]) c0 c15
 ·have e0:St.run is (.mk 7 n (.mk ek en ea) ck (.mk ak an aa) (.mk bk bn ba) b l) at_ s=({ s with steps:=s.steps+1 },none):=by rw [St.run,if_neg h0];simp
  rw [e0]
  exact step_7 w0 w rb vb B vc nb nc iv pv L is s at_ hh hlt hA hL c0
theorem run_all (w0:World) (rb vb B vc nb nc:Nat) (iv:Value) (L:List Nd) (is:List Int) (hL:L.length≤2097152):∀ N,N≤1048576→ListP w0 rb vb B vc nb nc iv L is N:=by
 intro N
 induction N with
 | zero =>
  intro _
  refine listp_of_step w0 rb vb B vc nb nc iv L is 0 ?_
  intro x r w pv s at_ h
  have:=bulk_pos' x
  omega
 | succ N ih =>
  intro hN
  exact listp_of_step w0 rb vb B vc nb nc iv L is (N+1) (stepp_of_list w0 rb vb B vc nb nc iv L is N (by omega) hL (ih (by omega)))
end Go.Proofs.YtnkgbkkakokciacDoor.B
